/- Texts of this claim, one behind the other: Flush, Crash, Src, Draw, SrcMore, DrawIrq, At2, WalkIrq, Open, OpenBytes. -/
import Derived.OwnWalk
import Derived.Laws.OwnMore
import Derived.WalkLawsBesides
import Derived.StillTailTactics
import Derived.IntWalk
import Derived.Deep.RegionHeld3
import Derived.BigQuiet
import Derived.Deep.Slices
import Derived.Lib.SmallJoins
import Derived.Test.YtamfapmkdojhcaaM3
/- Contract of the model's flush: l01Flush. -/
namespace Go.Proofs.Ytamfapmkdojhcaa
open Go.RowKit

theorem fate_one (k : Nat) : fateAt [1] k = 1 := by simp [fateAt, Nat.mod_one]
/-- From a row that an append made to a row by its index. -/
theorem row_of_own {w : World} {base n : Nat} {v : Value} {ss : List ByteArray} (h : w.ownsRow base 9 1 v n (cellsS ss)) (hn : 0 < n) : ∃ g cap m f, v = .slice (some ⟨g, 0, none⟩) n cap ∧ base ≤ g ∧ n ≤ m ∧ ss.length = n ∧ w.rowIs g 9 m f ∧ ∀ i, i < n → f i = .string (ss.getD i ByteArray.empty) := by
  obtain ⟨hl, h0 | ⟨g, cap, cur, rfl, hb, hg, hnc, _, hsz, htk⟩⟩ := h
  · omega
  · rw [cellsS_len, Nat.mul_one] at hl
    rw [Nat.mul_one] at hsz htk
    refine ⟨g, cap, cap, fun i => cur.toList.getD i undef, rfl, hb, hnc, hl, ⟨cur, hg, hsz, fun i hi => ?_⟩, fun i hi => ?_⟩
    · have : i < cur.toList.length := by simp [hsz, hi]
      show cur[i]? = some (cur.toList.getD i undef)
      rw [List.getD_eq_getElem?_getD, List.getElem?_eq_getElem this, ← Array.getElem?_toList, List.getElem?_eq_getElem this]
      rfl
    · have h1 : (cur.toList.take n)[i]? = (cellsS ss)[i]? := by rw [htk]
      rw [List.getElem?_take, if_pos hi] at h1
      show cur.toList.getD i undef = _
      rw [List.getD_eq_getElem?_getD, h1]
      unfold cellsS
      rw [List.getElem?_map, List.getD_eq_getElem?_getD, List.getElem?_eq_getElem (by omega)]
      rfl
theorem own_empty {w : World} {base g : Nat} {t : TypeId} (hb : base ≤ g) (hg : Box w g t #[]) : w.ownsRow base t 1 (.slice (some ⟨g, 0, none⟩) 0 0) 0 (cellsS []) :=
  ⟨rfl, .inr ⟨g, 0, #[], rfl, hb, hg, Nat.le_refl _, Nat.zero_le _, rfl, rfl⟩⟩
theorem cellsS_app (ss : List ByteArray) : cellsS [] ++ cellsS ss = cellsS ss := rfl
theorem below_of_grown {B : Nat} {w w' : World} {r : Option Nat} (h : w.grownBy w' r) (hr : ∀ k, r = some k → B ≤ k) (hB : B ≤ w.heap.size) : Below B w w' := (Below.refl B w).grown h hB hr

/-- A row of strings with room to spare: the first n are these. -/
def RowS (w : World) (b n m : Nat) (l : List ByteArray) : Prop := l.length = n ∧ n ≤ m ∧ ∃ f, w.rowIs b 9 m f ∧ ∀ i, i < n → f i = .string (l.getD i ByteArray.empty)
theorem RowS.cell {w : World} {b n m p : Nat} {l : List ByteArray} (h : RowS w b n m l) (hp : p < n) : w.cell? ⟨b, p, none⟩ = some (.string (l.getD p ByteArray.empty)) := by
  obtain ⟨_, hm, f, hr, hf⟩ := h
  rw [← hf p hp]; exact hr.cell (by omega)
theorem RowS.frozen {w : World} {b n m : Nat} {l : List ByteArray} (h : RowS w b n m l) (p : Nat) : w.frozen? ⟨b, p, none⟩ = false := by
  obtain ⟨_, hm, f, hr, hf⟩ := h
  exact hr.frozen p
theorem RowS.lt {w : World} {b n m : Nat} {l : List ByteArray} (h : RowS w b n m l) : b < w.heap.size := by
  obtain ⟨_, hm, f, hr, hf⟩ := h
  exact hr.lt
theorem RowS.below {w w' : World} {b n m : Nat} {l : List ByteArray} (h : RowS w b n m l) (hb : Below w.heap.size w w') : RowS w' b n m l := by
  obtain ⟨hl, hm, f, hr, hf⟩ := h
  exact ⟨hl, hm, f, row_below hb hr hr.lt, hf⟩
theorem RowS.set {w : World} {b n m p : Nat} {l : List ByteArray} (h : RowS w b n m l) (hp : p < n) (x : ByteArray) : RowS (w.setCell ⟨b, p, none⟩ (.string x)) b n m (l.set p x) := by
  obtain ⟨hl, hm, f, hr, hf⟩ := h
  refine ⟨by simpa using hl, hm, _, hr.set p (.string x), fun i hi => ?_⟩
  rw [getD_set l p i x (by omega)]
  by_cases e : i = p
  · rw [if_pos e, if_pos e]
  · rw [if_neg e, if_neg e]; exact hf i hi
theorem RowS.far {w : World} {b n m : Nat} {l : List ByteArray} (h : RowS w b n m l) {a : Addr} (ha : b ≠ a.block) (v : Value) : RowS (w.setCell a v) b n m l := by
  obtain ⟨hl, hm, f, hr, hf⟩ := h
  exact ⟨hl, hm, f, hr.setOther ha v, hf⟩
theorem RowS.own {w : World} {b n m lo hi : Nat} {l : List ByteArray} (h : RowS w b n m l) (h1 : lo ≤ b) (h2 : b < hi) : OwnS w lo hi (some ⟨b, 0, none⟩) l := by
  obtain ⟨hl, hm, f, hr, hf⟩ := h
  exact .inr ⟨b, m, f, rfl, h1, h2, by omega, hr, fun i hi => hf i (by omega)⟩

set_option maxRecDepth 100000 in
theorem infoSx : ∃ i : TypeInfo, Try.prog.info? 9 = some i ∧ i.zero = some (.string ByteArray.empty) ∧ i.size = 1 ∧ i.bytes = 16 := by
  obtain ⟨i, hi, hzz⟩ := Option.map_eq_some_iff.1 infoS
  simp only [Prod.mk.injEq] at hzz
  exact ⟨i, hi, hzz.1, hzz.2.1, hzz.2.2⟩

end Go.Proofs.Ytamfapmkdojhcaa

/- Contracts of the model's crash: l01Crash; of the tests of fates. -/
namespace Go.Proofs.Ytamfapmkdojhcaa
open Go.RowKit

theorem tear_min (old x : ByteArray) : x.extract 0 (x.size / 2) ++ old.extract (min (x.size / 2) old.size) old.size = tearOf old x := by
  unfold tearOf
  split
  · rename_i h
    rw [Nat.min_eq_right h]
    apply WideShapes.bytes_inj
    simp [ByteArray.data_extract]
  · rename_i h
    rw [Nat.min_eq_left (by omega)]

end Go.Proofs.Ytamfapmkdojhcaa

/- The model's source of draws: byte, next, chance. -/
namespace Go.Proofs.Ytamfapmkdojhcaa
open Go.RowKit

/-- The slice at A holds these bytes, in a block below lo. -/
def ByB (w : World) (lo : Nat) (A : Option Addr) (zs : List Nat) : Prop :=
  ∀ i, i < zs.length → ∃ b off, A = some ⟨b, off, none⟩ ∧ b < lo ∧ w.cell? ⟨b, off + i, none⟩ = some (.int .u8 (zs.getD i 0 : Nat)) ∧ zs.getD i 0 < 256
theorem ByB.btw {w w' : World} {lo l h' : Nat} {A : Option Addr} {zs : List Nat} (h : ByB w lo A zs) (hb : Btw l h' w w') (ho : lo ≤ l) : ByB w' lo A zs := fun i hi => by
  obtain ⟨b, off, e, q1, q2, q3⟩ := h i hi
  exact ⟨b, off, e, q1, hb.cell q2 (.inl (by show b < l; omega)), q3⟩
/-- The source at b: its bytes, how many are drawn (at most K), a seed. -/
def Src (w : World) (b : Nat) (A : Option Addr) (n c : Nat) (zs : List Nat) (K : Nat) : Prop :=
  ∃ k sd : Nat, Box w b 66 #[.slice A n c, .int .i64 k, .int .i64 sd] ∧ k ≤ K ∧ sd < 2147483648 ∧ zs.length = n ∧ ByB w b A zs
theorem Src.btw {w w' : World} {b l h' : Nat} {A : Option Addr} {n c : Nat} {zs : List Nat} {K : Nat} (h : Src w b A n c zs K) (hb : Btw l h' w w') (ho : b < l) : Src w' b A n c zs K := by
  obtain ⟨k, sd, q1, q2, q3, q4, q5⟩ := h
  exact ⟨k, sd, q1.btw hb (.inl ho), q2, q3, q4, q5.btw hb (by omega)⟩
theorem Src.lt {w : World} {b : Nat} {A : Option Addr} {n c : Nat} {zs : List Nat} {K : Nat} (h : Src w b A n c zs K) : b < w.heap.size := by
  obtain ⟨k, sd, q1, _⟩ := h
  exact q1.lt
theorem Src.mono {w : World} {b : Nat} {A : Option Addr} {n c : Nat} {zs : List Nat} {K K' : Nat} (h : Src w b A n c zs K) (hk : K ≤ K') : Src w b A n c zs K' := by
  obtain ⟨k, sd, q1, q2, q3⟩ := h
  exact ⟨k, sd, q1, by omega, q3⟩

/-- After 'at++'. -/
theorem src_at {w : World} {b : Nat} {A : Option Addr} {n c : Nat} {k sd : Nat} (X : Box w b 66 #[.slice A n c, .int .i64 k, .int .i64 sd]) :
    Box (w.setCell ⟨b, 1, none⟩ (.int .i64 ((k : Int) + 1))) b 66 #[.slice A n c, .int .i64 ((k + 1 : Nat) : Int), .int .i64 sd] := X.set 1 (.int .i64 ((k : Int) + 1))
theorem src_seed {w : World} {b : Nat} {A : Option Addr} {n c : Nat} {k sd : Nat} (X : Box w b 66 #[.slice A n c, .int .i64 k, .int .i64 sd]) (s2 : Nat) :
    Box (w.setCell ⟨b, 2, none⟩ (.int .i64 (s2 : Int))) b 66 #[.slice A n c, .int .i64 k, .int .i64 s2] := X.set 2 (.int .i64 (s2 : Int))

/-- The source at b, exactly: its bytes, how many are drawn, the seed. -/
def SrcX (w : World) (b : Nat) (A : Option Addr) (n c : Nat) (zs : List Nat) (k sd : Nat) : Prop :=
  Box w b 66 #[.slice A n c, .int .i64 k, .int .i64 sd] ∧ sd < 2147483648 ∧ zs.length = n ∧ ByB w b A zs
/-- What byte draws: the byte, the count, the seed. -/
def byteV (zs : List Nat) (k sd : Nat) : Nat × Nat × Nat :=
  if k < zs.length then (zs.getD k 0, k + 1, (sd * 31 + zs.getD k 0 + 7) % 2147483648) else if 3000 < k + 1 then (0, k + 1, sd) else ((sd * 1103515245 + 12345) % 2147483648 / 65536 % 256, k + 1, (sd * 1103515245 + 12345) % 2147483648)
theorem byteV_at (zs : List Nat) (k sd : Nat) : (byteV zs k sd).2.1 = k + 1 := by
  unfold byteV; split
  · rfl
  · split <;> rfl
theorem SrcX.src {w : World} {b : Nat} {A : Option Addr} {n c : Nat} {zs : List Nat} {k sd : Nat} (h : SrcX w b A n c zs k sd) {K : Nat} (hk : k ≤ K) : Src w b A n c zs K := ⟨k, sd, h.1, hk, h.2.1, h.2.2.1, h.2.2.2⟩
theorem Src.exact {w : World} {b : Nat} {A : Option Addr} {n c : Nat} {zs : List Nat} {K : Nat} (h : Src w b A n c zs K) : ∃ k sd, k ≤ K ∧ SrcX w b A n c zs k sd := by
  obtain ⟨k, sd, q1, q2, q3, q4, q5⟩ := h
  exact ⟨k, sd, q2, q1, q3, q4, q5⟩
theorem SrcX.byteV_lt {w : World} {b : Nat} {A : Option Addr} {n c : Nat} {zs : List Nat} {k sd : Nat} (h : SrcX w b A n c zs k sd) : (byteV zs k sd).1 < 256 := by
  unfold byteV; split
  · rename_i hk; obtain ⟨_, _, _, _, _, hv⟩ := h.2.2.2 k hk; exact hv
  · split
    · exact (by omega : (0 : Nat) < 256)
    · exact Nat.mod_lt _ (by omega)

set_option maxRecDepth 100000 in
set_option maxHeartbeats 4000000 in
theorem srcByteX (b : Nat) (A : Option Addr) (n c : Nat) (zs : List Nat) (k sd : Nat) (w : World) (hk9 : k ≤ 1000000000) (h : SrcX w b A n c zs k sd) :
    Calls Try.prog 61 #[.pointer (some ⟨b, 0, none⟩)] w fun e w' => e = .returned (.int .i64 ((byteV zs k sd).1 : Nat)) ∧ Hid (SrcX w' b A n c zs (byteV zs k sd).2.1 (byteV zs k sd).2.2) ∧ Btw b (b + 1) w w' := by
  obtain ⟨X, hs, hl, hz⟩ := h
  have HX := Lib.hid (src_at X)
  have HB : Hid (Btw b (b + 1) w (w.setCell ⟨b, 1, none⟩ (.int .i64 ((k : Int) + 1)))) := Lib.hid ((Btw.refl b (b + 1) w).setCell (p := ⟨b, 1, none⟩) (by show b ≤ b; omega) (by show b < b + 1; omega) _)
  have HZ := Lib.hid (hz.btw HB.out (Nat.le_refl _))
  have HL := Lib.hid hl
  have f1 : w.cell? ⟨b, 1, none⟩ = some (.int .i64 k) := X.cell 1 rfl
  have g1 := X.frozen 1
  clear X hz hl
  go_enter Try.func61, Try.ntmps61
  go_wp2
  generalize w.setCell ⟨b, 1, none⟩ (.int .i64 ((k : Int) + 1)) = w1 at HX HB HZ ⊢
  clear f1 g1
  have f0 : w1.cell? ⟨b, 0, none⟩ = some (.slice A n c) := HX.out.cell 0 rfl
  have f1 : w1.cell? ⟨b, 1, none⟩ = some (.int .i64 ((k : Int) + 1)) := HX.out.cell 1 rfl
  have f2 : w1.cell? ⟨b, 2, none⟩ = some (.int .i64 sd) := HX.out.cell 2 rfl
  have g2 := HX.out.frozen 2
  by_cases hlt : k < n
  · have hlt' : (k : Int) + 1 ≤ (n : Int) := by omega
    have hk0 : (0 : Int) ≤ (k : Int) := by omega
    have hki : (k : Int) < (n : Int) := by omega
    obtain ⟨bb, off, rfl, hbb, hc, hv⟩ := HZ.out k (by rw [HL.out]; exact hlt)
    have HV : Hid (byteV zs k sd = (zs.getD k 0, k + 1, (sd * 31 + zs.getD k 0 + 7) % 2147483648)) := Lib.hid (by unfold byteV; rw [if_pos (by rw [HL.out]; exact hlt)])
    generalize zs.getD k 0 = x at hc hv HV
    have hne : ¬ bb = b := by omega
    go_quiet (fail)
    go_wp2
    have HX2 := Lib.hid (HX.out.drewN nq)
    have HB2 := Lib.hid (HB.out.drewN nq)
    have HZ2 := Lib.hid (HZ.out.btw ((Btw.refl b (b + 1) w1).drewN nq) (Nat.le_refl _))
    have hc2 : (w1.drewN nq).cell? ⟨bb, off + k, none⟩ = some (.int .u8 (x : Nat)) := hc
    clear f0 f1 f2 g2 hc HX HB HZ
    generalize w1.drewN nq = w2 at HX2 HB2 HZ2 hc2 ⊢
    have f0 : w2.cell? ⟨b, 0, none⟩ = some (.slice (some ⟨bb, off, none⟩) n c) := HX2.out.cell 0 rfl
    have f1 : w2.cell? ⟨b, 1, none⟩ = some (.int .i64 ((k : Int) + 1)) := HX2.out.cell 1 rfl
    have f2 : w2.cell? ⟨b, 2, none⟩ = some (.int .i64 sd) := HX2.out.cell 2 rfl
    have g2 := HX2.out.frozen 2
    have t0 : (0 : Int) ≤ (sd : Int) := by omega
    have u1 : IntKind.i64.wrap ((sd : Int) * 31) = (sd : Int) * 31 := IntWalk.i64_in _ ⟨by omega, by omega⟩
    have u2 : IntKind.i64.wrap (k : Int) = (k : Int) := IntWalk.i64_in _ ⟨by omega, by omega⟩
    have u3 : IntKind.i64.wrap (x : Int) = (x : Int) := IntWalk.i64_in _ ⟨by omega, by omega⟩
    have u4 : IntKind.i64.wrap ((sd : Int) * 31 + (x : Int)) = (sd : Int) * 31 + (x : Int) := IntWalk.i64_in _ ⟨by omega, by omega⟩
    have u5 : IntKind.i64.wrap ((sd : Int) * 31 + (x : Int) + 7) = (sd : Int) * 31 + (x : Int) + 7 := IntWalk.i64_in _ ⟨by omega, by omega⟩
    go_still_tail 21, (by kernel_rfl)
    change wpList _ _ _ _ _ w2.drew
    go_wp2
    clear u1 u2 u3 u4 u5
    have e1 : ((sd : Int) * 31 + (x : Int) + 7) % 2147483648 = (((sd * 31 + x + 7) % 2147483648 : Nat) : Int) := by omega
    have e2 : (sd * 31 + x + 7) % 2147483648 < 2147483648 := Nat.mod_lt _ (by omega)
    rw [e1]
    clear e1
    generalize (sd * 31 + x + 7) % 2147483648 = s2 at e2 HV ⊢
    have kA : Btw b (b + 1) w2 ((w2.setCell ⟨b, 2, none⟩ (.int .i64 (s2 : Int))).drew) := ((Btw.refl b (b + 1) _).setCell (p := ⟨b, 2, none⟩) (by show b ≤ b; omega) (by show b < b + 1; omega) _).drew
    have HX3 := Lib.hid (src_seed HX2.out s2).drew
    have HB3 := Lib.hid (HB2.out.trans kA)
    have HZ3 := Lib.hid (HZ2.out.btw kA (Nat.le_refl _))
    have hc3 := kA.cell hc2 (.inl hbb)
    clear f0 f1 f2 g2 hc2 HX2 HB2 HZ2 kA
    generalize (w2.setCell ⟨b, 2, none⟩ (.int .i64 (s2 : Int))).drew = w3 at HX3 HB3 HZ3 hc3 ⊢
    have f0 : w3.cell? ⟨b, 0, none⟩ = some (.slice (some ⟨bb, off, none⟩) n c) := HX3.out.cell 0 rfl
    have f1 : w3.cell? ⟨b, 1, none⟩ = some (.int .i64 ((k : Int) + 1)) := HX3.out.cell 1 rfl
    have u2 : IntKind.i64.wrap (k : Int) = (k : Int) := IntWalk.i64_in _ ⟨by omega, by omega⟩
    have u3 : IntKind.i64.wrap (x : Int) = (x : Int) := IntWalk.i64_in _ ⟨by omega, by omega⟩
    go_quiet (fail)
    clear u2 u3
    go_wp2
    refine bodyPost_ret (v := .int .i64 (x : Int)) (by simp [results, Try.results61, go_sem]) rfl ?_
    rw [HV.out]
    exact ⟨rfl, Lib.hid ⟨HX3.out.drewN _, e2, HL.out, HZ3.out.btw ((Btw.refl b (b + 1) w3).drewN _) (Nat.le_refl _)⟩, HB3.out.drewN _⟩
  · have hlt' : ¬ (k : Int) + 1 ≤ (n : Int) := by omega
    by_cases h3 : 3000 < (k : Int) + 1
    · have HV : Hid (byteV zs k sd = (0, k + 1, sd)) := Lib.hid (by unfold byteV; rw [if_neg (by rw [HL.out]; exact hlt), if_pos (by omega)])
      go_quiet (fail)
      go_wp2
      refine bodyPost_ret (v := .int .i64 ((0 : Nat) : Int)) (by simp [results, Try.results61, go_sem]) rfl ?_
      rw [HV.out]
      exact ⟨rfl, Lib.hid ⟨HX.out.drewN nq, hs, HL.out, HZ.out.btw ((Btw.refl b (b + 1) w1).drewN nq) (Nat.le_refl _)⟩, HB.out.drewN nq⟩
    · have HV : Hid (byteV zs k sd = ((sd * 1103515245 + 12345) % 2147483648 / 65536 % 256, k + 1, (sd * 1103515245 + 12345) % 2147483648)) := Lib.hid (by unfold byteV; rw [if_neg (by rw [HL.out]; exact hlt), if_neg (by omega)])
      go_quiet (fail)
      go_wp2
      have e1 : ((sd : Int) * 1103515245 + 12345) % 2147483648 = (((sd * 1103515245 + 12345) % 2147483648 : Nat) : Int) := by omega
      have e2 : (sd * 1103515245 + 12345) % 2147483648 < 2147483648 := Nat.mod_lt _ (by omega)
      rw [e1]
      generalize (sd * 1103515245 + 12345) % 2147483648 = s2 at e2 HV ⊢
      have e3 : (s2 : Int) / 65536 % 256 = ((s2 / 65536 % 256 : Nat) : Int) := by omega
      rw [e3]
      have kA : Btw b (b + 1) (w1.drewN nq) ((w1.drewN nq).setCell ⟨b, 2, none⟩ (.int .i64 (s2 : Int))) := (Btw.refl b (b + 1) _).setCell (p := ⟨b, 2, none⟩) (by show b ≤ b; omega) (by show b < b + 1; omega) _
      have kB := ((Btw.refl b (b + 1) w1).drewN nq).trans kA
      refine bodyPost_ret (v := .int .i64 ((s2 / 65536 % 256 : Nat) : Int)) (by simp [results, Try.results61, go_sem]) rfl ?_
      rw [HV.out]
      exact ⟨rfl, Lib.hid ⟨src_seed (HX.out.drewN nq) s2, e2, HL.out, HZ.out.btw kB (Nat.le_refl _)⟩, HB.out.trans kB⟩

set_option maxRecDepth 100000 in
theorem srcByte (b : Nat) (A : Option Addr) (n c : Nat) (zs : List Nat) (K : Nat) (w : World) (hK : K ≤ 1000000000) (h : Src w b A n c zs K) :
    Calls Try.prog 61 #[.pointer (some ⟨b, 0, none⟩)] w fun e w' => ∃ v : Nat, e = .returned (.int .i64 v) ∧ v < 256 ∧ Hid (Src w' b A n c zs (K + 1)) ∧ Btw b (b + 1) w w' := by
  obtain ⟨k, sd, hk, hx⟩ := h.exact
  refine (srcByteX b A n c zs k sd w (by omega) hx).mono ?_
  rintro e w' ⟨rfl, h2, h3⟩
  exact ⟨_, rfl, hx.byteV_lt, Lib.hid (h2.out.src (by rw [byteV_at]; omega)), h3⟩
end Go.Proofs.Ytamfapmkdojhcaa

/- The model's source of draws: next, chance, the source itself. -/
namespace Go.Proofs.Ytamfapmkdojhcaa
open Go.RowKit

set_option maxRecDepth 100000 in
set_option maxHeartbeats 4000000 in
theorem srcNextX (N : Nat) (b : Nat) (A : Option Addr) (n c : Nat) (zs : List Nat) (k sd : Nat) (w : World) (hN : 2 ≤ N) (hN2 : N ≤ 256) (hK : k ≤ 1000000000) (h : SrcX w b A n c zs k sd) :
    Calls Try.prog 53 #[.pointer (some ⟨b, 0, none⟩), .int .i64 (N : Nat)] w fun e w' => e = .returned (.int .i64 ((byteV zs k sd).1 % N : Nat)) ∧ Hid (SrcX w' b A n c zs (byteV zs k sd).2.1 (byteV zs k sd).2.2) ∧ Btw b (b + 1) w w' := by
  have HC := Lib.hid (srcByteX b A n c zs k sd w hK h)
  have h1 : ¬ (N : Int) ≤ 1 := by omega
  have h2 : (N : Int) ≤ 256 := by omega
  have h3 : ¬ (N : Int) = 0 := by omega
  clear h
  go_enter Try.func53, Try.ntmps53
  go_wp2_with fail
  refine HC.out.mono ?_
  rintro e w1 ⟨rfl, S1, hb1⟩
  obtain ⟨v, hv⟩ : ∃ v, v = (byteV zs k sd).1 := ⟨_, rfl⟩
  rw [← hv]
  have HV := Lib.hid hv
  clear hv
  have v0 : (0 : Int) ≤ (v : Int) := by omega
  go_wp2
  have e1 : (v : Int) % (N : Int) = ((v % N : Nat) : Int) := by omega
  rw [e1]
  refine bodyPost_ret (v := .int .i64 ((v % N : Nat) : Int)) (by simp [results, Try.results53, go_sem]) rfl ?_
  exact ⟨by rw [HV.out], S1, hb1⟩

set_option maxRecDepth 100000 in
theorem srcNext (N : Nat) (b : Nat) (A : Option Addr) (n c : Nat) (zs : List Nat) (K : Nat) (w : World) (hN : 2 ≤ N) (hN2 : N ≤ 256) (hK : K ≤ 1000000000) (h : Src w b A n c zs K) :
    Calls Try.prog 53 #[.pointer (some ⟨b, 0, none⟩), .int .i64 (N : Nat)] w fun e w' => ∃ v : Nat, e = .returned (.int .i64 v) ∧ v < N ∧ Hid (Src w' b A n c zs (K + 1)) ∧ Btw b (b + 1) w w' := by
  obtain ⟨k, sd, hk, hx⟩ := h.exact
  refine (srcNextX N b A n c zs k sd w hN hN2 (by omega) hx).mono ?_
  rintro e w' ⟨rfl, h2, h3⟩
  exact ⟨_, rfl, Nat.mod_lt _ (by omega), Lib.hid (h2.out.src (by rw [byteV_at]; omega)), h3⟩

set_option maxRecDepth 100000 in
set_option maxHeartbeats 4000000 in
theorem srcChance (N : Nat) (b : Nat) (A : Option Addr) (n c : Nat) (zs : List Nat) (K : Nat) (w : World) (hN : 2 ≤ N) (hN2 : N ≤ 256) (hK : K ≤ 1000000000) (h : Src w b A n c zs K) :
    Calls Try.prog 54 #[.pointer (some ⟨b, 0, none⟩), .int .i64 (N : Nat)] w fun e w' => ∃ v : Bool, e = .returned (.bool v) ∧ Hid (Src w' b A n c zs (K + 1)) ∧ Btw b (b + 1) w w' := by
  have HC := Lib.hid (srcNext N b A n c zs K w hN hN2 hK h)
  clear h
  go_enter Try.func54, Try.ntmps54
  go_wp2_with fail
  refine HC.out.mono ?_
  rintro e w1 ⟨v, rfl, hv, S1, hb1⟩
  go_wp2
  refine bodyPost_ret (v := .bool ((v : Int) == (N : Int) - 1)) (by simp [results, Try.results54, go_sem]) rfl ?_
  exact ⟨_, rfl, S1, hb1⟩

set_option maxRecDepth 100000 in
set_option maxHeartbeats 4000000 in
theorem srcNewX (A : Option Addr) (n c : Nat) (zs : List Nat) (w : World) (hn : n ≤ maxLen) (hl : zs.length = n) (h : ByB w w.heap.size A zs) :
    Calls Try.prog 29 #[.slice A n c] w fun e w' => e = .returned (.pointer (some ⟨w.heap.size, 0, none⟩)) ∧ Hid (SrcX w' w.heap.size A n c zs 0 (n % 1000)) ∧ Below w.heap.size w w' := by
  unfold maxLen at hn
  go_enter Try.func29, Try.ntmps29
  go_wp2
  have e1 : (n : Int) % 1000 = ((n % 1000 : Nat) : Int) := by omega
  rw [e1]
  refine bodyPost_ret (v := .pointer (some ⟨w.heap.size, 0, none⟩)) (by simp [results, Try.results29, go_sem]) rfl ?_
  have hb := alloc_below w (.cells #[.slice A n c, .int .i64 0, .int .i64 ((n % 1000 : Nat) : Int)] 66)
  exact ⟨rfl, Lib.hid ⟨Box.new _ _ _, Nat.lt_of_lt_of_le (Nat.mod_lt _ (by omega)) (by omega), hl, h.btw (Btw.of_below hb w.heap.size (w.heap.size + 1)) (Nat.le_refl _)⟩, hb⟩

set_option maxRecDepth 100000 in
theorem srcNew (A : Option Addr) (n c : Nat) (zs : List Nat) (w : World) (hn : n ≤ maxLen) (hl : zs.length = n) (h : ByB w w.heap.size A zs) :
    Calls Try.prog 29 #[.slice A n c] w fun e w' => e = .returned (.pointer (some ⟨w.heap.size, 0, none⟩)) ∧ Hid (Src w' w.heap.size A n c zs 0) ∧ Below w.heap.size w w' := by
  refine (srcNewX A n c zs w hn hl h).mono ?_
  rintro e w' ⟨rfl, h2, h3⟩
  exact ⟨rfl, Lib.hid (h2.out.src (Nat.le_refl _)), h3⟩
end Go.Proofs.Ytamfapmkdojhcaa

/- The source of draws, carried over what does not touch it. -/
namespace Go.Proofs.Ytamfapmkdojhcaa
open Go.RowKit

theorem Src.below {w w' : World} {b B : Nat} {A : Option Addr} {n c : Nat} {zs : List Nat} {K : Nat} (h : Src w b A n c zs K) (hb : Below B w w') (ho : b < B) : Src w' b A n c zs K := by
  obtain ⟨k, sd, q1, q2, q3, q4, q5⟩ := h
  refine ⟨k, sd, q1.below hb ho, q2, q3, q4, fun i hi => ?_⟩
  obtain ⟨bb, off, e, p1, p2, p3⟩ := q5 i hi
  exact ⟨bb, off, e, p1, (hb.cell (by show bb < B; omega)).trans p2, p3⟩
theorem Src.drew {w : World} {b : Nat} {A : Option Addr} {n c : Nat} {zs : List Nat} {K : Nat} (h : Src w b A n c zs K) : Src w.drew b A n c zs K := h.below (Below.refl _ _).drew h.lt
theorem Src.alloc {w : World} {b : Nat} {A : Option Addr} {n c : Nat} {zs : List Nat} {K : Nat} (h : Src w b A n c zs K) (o : Obj) : Src (w.alloc o) b A n c zs K := h.below (alloc_below w o) h.lt
theorem ByB.step {w w' : World} {A : Option Addr} {zs : List Nat} (h : ByB w w.heap.size A zs) (hb : Below w.heap.size w w') : ByB w' w'.heap.size A zs := fun i hi => by
  obtain ⟨b, off, e, q1, q2, q3⟩ := h i hi
  exact ⟨b, off, e, Nat.lt_of_lt_of_le q1 hb.size, (hb.cell q1).trans q2, q3⟩
end Go.Proofs.Ytamfapmkdojhcaa

/- The source's irq: a drawn valid controller; spec.IrqDrawn. -/
namespace Go.Proofs.Ytamfapmkdojhcaa
open Go.RowKit

theorem btw_below6 {lo hi B : Nat} {w w1 w2 : World} (h : Btw lo hi w w1) (hb : Below B w1 w2) (hB : w.heap.size ≤ B) : Btw lo hi w w2 :=
  ⟨hb.os.trans h.os, hb.tape.trans h.tape, hb.output.trans h.output, Nat.le_trans h.size hb.size, fun k hk ho => (hb.block k (Nat.lt_of_lt_of_le hk hB)).trans (h.block k hk ho)⟩
theorem all_set6 {l : List Int} {p : Int → Bool} (h : l.all p = true) (k : Nat) (x : Int) (hx : p x = true) : (l.set k x).all p = true := by
  rw [List.all_eq_true] at h ⊢
  intro y hy
  rcases List.mem_or_eq_of_mem_set hy with q | rfl
  · exact h y q
  · exact hx
/-- A controller in the making: rows of its own, the source, the result's block. -/
structure QS (w : World) (b : Nat) (A : Option Addr) (n c : Nat) (zs : List Nat) (K D b0 b1 c0 c1 : Nat) (W : World) : Prop where
  btw : Btw b (b + 1) w W
  s : Src W b A n c zs K
  r : Box W w.heap.size 26 #[.slice none 0 0, .slice none 0 0]
  x : Box W D 26 #[.slice (some ⟨b0, 0, none⟩) 8 c0, .slice (some ⟨b1, 0, none⟩) 8 c1]
  L : ∃ ls : List Int, ls.length = 8 ∧ ls.all lvB = true ∧ OwnI W w.heap.size W.heap.size (some ⟨b0, 0, none⟩) ls
  P : ∃ ps : List Bool, ps.length = 8 ∧ OwnB W w.heap.size W.heap.size (some ⟨b1, 0, none⟩) ps
  lt : b < w.heap.size
  dl : w.heap.size + 1 ≤ D
section
variable {w : World} {b : Nat} {A : Option Addr} {n c : Nat} {zs : List Nat} {K D b0 b1 c0 c1 : Nat} {W W2 : World}
theorem QS.mono {K2 : Nat} (h : QS w b A n c zs K D b0 b1 c0 c1 W) (hk : K ≤ K2) : QS w b A n c zs K2 D b0 b1 c0 c1 W := ⟨h.btw, h.s.mono hk, h.r, h.x, h.L, h.P, h.lt, h.dl⟩
theorem QS.next {K2 : Nat} (h : QS w b A n c zs K D b0 b1 c0 c1 W) (S : Src W2 b A n c zs K2) (hb : Btw b (b + 1) W W2) : QS w b A n c zs K2 D b0 b1 c0 c1 W2 := by
  have hl := h.lt
  have hd := h.dl
  refine ⟨h.btw.trans hb, S, h.r.btw hb (.inr (by omega)), h.x.btw hb (.inr (by omega)), ?_, ?_, h.lt, h.dl⟩
  · obtain ⟨ls, h1, h2, h3⟩ := h.L; exact ⟨ls, h1, h2, (h3.btw hb (.inr (by omega))).wideB (Nat.le_refl _) hb.size⟩
  · obtain ⟨ps, h1, h3⟩ := h.P; exact ⟨ps, h1, (h3.btw hb (.inr (by omega))).wide (Nat.le_refl _) hb.size⟩
theorem QS.drew (h : QS w b A n c zs K D b0 b1 c0 c1 W) : QS w b A n c zs K D b0 b1 c0 c1 W.drew := ⟨h.btw.drew, h.s.drew, h.r, h.x, h.L, h.P, h.lt, h.dl⟩
theorem lvB_nat {u : Nat} (h : u < 8) : lvB (u : Int) = true := by unfold lvB; simp; omega
theorem QS.setL (h : QS w b A n c zs K D b0 b1 c0 c1 W) (v u : Nat) (hv : v < 8) (hu : u < 8) : QS w b A n c zs K D b0 b1 c0 c1 (W.setCell ⟨b0, v, none⟩ (.int .i64 (u : Int))) := by
  obtain ⟨ls, l0, a0, O⟩ := h.L
  obtain ⟨ps, l1, O1⟩ := h.P
  obtain ⟨b', m, f, e, hc, hf, h1, h2, hr, hput⟩ := O.put v (by omega)
  have eb : b0 = b' := by injection e with e; injection e
  subst eb
  have q : Below w.heap.size W (W.setCell ⟨b0, v, none⟩ (.int .i64 (u : Int))) := (Below.refl _ _).setCell (p := ⟨b0, v, none⟩) h1 _
  exact ⟨btw_below6 h.btw q (Nat.le_refl _), h.s.below q h.lt, h.r.otherRow hr (by decide) _ _, h.x.otherRow hr (by decide) _ _, ⟨_, by rw [List.length_set]; exact l0, all_set6 a0 v _ (lvB_nat hu), (hput u).wideB (Nat.le_refl _) (by simp [World.setCell])⟩, ⟨ps, l1, (O1.setRowI hr v _).wide (Nat.le_refl _) (by simp [World.setCell])⟩, h.lt, h.dl⟩
theorem QS.setP (h : QS w b A n c zs K D b0 b1 c0 c1 W) (v : Nat) (u : Bool) (hv : v < 8) : QS w b A n c zs K D b0 b1 c0 c1 (W.setCell ⟨b1, v, none⟩ (.bool u)) := by
  obtain ⟨ls, l0, a0, O⟩ := h.L
  obtain ⟨ps, l1, O1⟩ := h.P
  obtain ⟨b', m, f, e, hc, hf, h1, h2, hr, hput⟩ := O1.put v (by omega)
  have eb : b1 = b' := by injection e with e; injection e
  subst eb
  have q : Below w.heap.size W (W.setCell ⟨b1, v, none⟩ (.bool u)) := (Below.refl _ _).setCell (p := ⟨b1, v, none⟩) h1 _
  exact ⟨btw_below6 h.btw q (Nat.le_refl _), h.s.below q h.lt, h.r.otherRow hr (by decide) _ _, h.x.otherRow hr (by decide) _ _, ⟨ls, l0, a0, (O.setRowB hr v _).wideB (Nat.le_refl _) (by simp [World.setCell])⟩, ⟨_, by rw [List.length_set]; exact l1, (hput u).wide (Nat.le_refl _) (by simp [World.setCell])⟩, h.lt, h.dl⟩
theorem QS.cL (h : QS w b A n c zs K D b0 b1 c0 c1 W) (v : Nat) (hv : v < 8) : (∃ y, W.cell? ⟨b0, v, none⟩ = some y) ∧ W.frozen? ⟨b0, v, none⟩ = false := by
  obtain ⟨ls, l0, a0, O⟩ := h.L
  obtain ⟨b', m, f, e, hc, hf, _⟩ := O.put v (by omega)
  have eb : b0 = b' := by injection e with e; injection e
  subst eb
  exact ⟨⟨_, hc⟩, hf⟩
theorem QS.cP (h : QS w b A n c zs K D b0 b1 c0 c1 W) (v : Nat) (hv : v < 8) : (∃ y, W.cell? ⟨b1, v, none⟩ = some y) ∧ W.frozen? ⟨b1, v, none⟩ = false := by
  obtain ⟨ls, l0, O⟩ := h.P
  obtain ⟨b', m, f, e, hc, hf, _⟩ := O.put v (by omega)
  have eb : b1 = b' := by injection e with e; injection e
  subst eb
  exact ⟨⟨_, hc⟩, hf⟩
end
/-- A drawn controller: valid, of its own. -/
def GivesIrqX (w : World) (R : World → Prop) (e : Ending) (w' : World) : Prop :=
  ∃ ls ps A0 A1 c0 c1, Hid (okIrq ls ps = true) ∧ e = .returned (.agg #[.slice A0 8 c0, .slice A1 8 c1]) ∧ Hid (OwnI w' w.heap.size w'.heap.size A0 ls ∧ OwnB w' w.heap.size w'.heap.size A1 ps) ∧ Hid (R w')
theorem okIrq_mk {ls : List Int} {ps : List Bool} (h : ls.length = 8) (h2 : ps.length = 8) (h3 : ls.all lvB = true) : okIrq ls ps = true := by rw [okIrq_yes _ _ h h2]; exact h3
theorem ownI_blk6 {w : World} {L R : Nat} {A : Option Addr} {zs : List Int} (h : OwnI w L R A zs) (hn : 0 < zs.length) : ∃ ba, A = some ⟨ba, 0, none⟩ := by
  obtain ⟨b, m, f, e, _⟩ := h.put 0 hn
  exact ⟨b, e⟩
theorem ownB_blk6 {w : World} {L R : Nat} {A : Option Addr} {zs : List Bool} (h : OwnB w L R A zs) (hn : 0 < zs.length) : ∃ ba, A = some ⟨ba, 0, none⟩ := by
  obtain ⟨b, m, f, e, _⟩ := h.put 0 hn
  exact ⟨b, e⟩

set_option maxRecDepth 100000 in
set_option maxHeartbeats 16000000 in
theorem srcIrq (b : Nat) (A : Option Addr) (n c : Nat) (zs : List Nat) (K : Nat) (w : World) (hK : K ≤ 100) (h : Src w b A n c zs K) :
    Calls Try.prog 30 #[.pointer (some ⟨b, 0, none⟩)] w (GivesIrqX w (fun w' => Btw b (b + 1) w w')) := by
  have hlt : b < w.heap.size := h.lt
  obtain ⟨W0, hW0⟩ : ∃ W0, W0 = w.alloc (.cells #[.slice none 0 0, .slice none 0 0] 26) := ⟨_, rfl⟩
  have hb0 : Below w.heap.size w W0 := by rw [hW0]; exact alloc_below _ _
  have Y0 : Hid (Box W0 w.heap.size 26 #[.slice none 0 0, .slice none 0 0]) := Lib.hid (by rw [hW0]; exact Box.new _ _ _)
  have S0 := Lib.hid (h.below hb0 hlt)
  have HN := Lib.hid (specNewIrq W0)
  have HW0 := Lib.hid hW0
  have hs0 : W0.heap.size = w.heap.size + 1 := by rw [hW0]; simp
  clear h hW0
  go_enter Try.func30, Try.ntmps30
  go_wp2_with fail
  rw [← HW0.out]
  refine HN.out.mono ?_
  rintro e w2 ⟨B0, B1, c0, c1, rfl, O, hb2⟩
  obtain ⟨D, hD⟩ : ∃ D, D = w2.heap.size := ⟨_, rfl⟩
  obtain ⟨W3, hW3⟩ : ∃ W3, W3 = w2.alloc (.cells #[.slice B0 8 c0, .slice B1 8 c1] 26) := ⟨_, rfl⟩
  have hb3 : Below w2.heap.size w2 W3 := by rw [hW3]; exact alloc_below _ _
  obtain ⟨b0, rfl⟩ := ownI_blk6 O.out.1 (by decide)
  obtain ⟨b1, rfl⟩ := ownB_blk6 O.out.2 (by decide)
  have HM : Hid (QS w b A n c zs K D b0 b1 c0 c1 W3) := Lib.hid ⟨Btw.of_below (bt (bt hb0 hb2) hb3) b (b + 1), (S0.out.below hb2 (by omega)).below hb3 (by have := hb2.size; omega), (Y0.out.step hb2).step hb3, by rw [hW3, hD]; exact Box.new _ _ _,
    ⟨zL, rfl, by decide, (O.out.1.below hb3).wideB (by omega) hb3.size⟩, ⟨zP, rfl, (O.out.2.below hb3).wide (by omega) hb3.size⟩, hlt, by have := hb2.size; omega⟩
  have HW3 := Lib.hid hW3
  clear HN O hW3 hb2 hb3 Y0 S0 HW0 hb0
  go_wp2
  rw [← HW3.out, ← hD]
  clear HW3 hD
  go_loopw [4] (fun q wr => ∃ j : Nat, j ≤ 8 ∧ q = .int .i64 j ∧ Hid (QS w b A n c zs (K + 2 * j) D b0 b1 c0 c1 wr)) (fun q _ => 8 - (intOf q).toNat)
  case atStart => exact ⟨0, by omega, rfl, HM⟩
  case round =>
    clear HM
    obtain ⟨j, hj, rfl, M⟩ := hrel
    have HN8 : Hid (∀ K W, K ≤ 10000 → Hid (QS w b A n c zs K D b0 b1 c0 c1 W) → Calls Try.prog 53 #[.pointer (some ⟨b, 0, none⟩), .int .i64 8] W fun e w' => ∃ v : Nat, e = .returned (.int .i64 v) ∧ v < 8 ∧ Hid (QS w b A n c zs (K + 1) D b0 b1 c0 c1 w')) := Lib.hid (fun K W h3 hM => by
      refine (srcNext 8 b A n c zs K W (by omega) (by omega) (by omega) hM.out.s).mono ?_
      rintro e w' ⟨v, rfl, hv, S, hb⟩
      exact ⟨v, rfl, hv, Lib.hid (hM.out.next S.out hb)⟩)
    have HC3 : Hid (∀ K W, K ≤ 10000 → Hid (QS w b A n c zs K D b0 b1 c0 c1 W) → Calls Try.prog 54 #[.pointer (some ⟨b, 0, none⟩), .int .i64 3] W fun e w' => ∃ v : Bool, e = .returned (.bool v) ∧ Hid (QS w b A n c zs (K + 1) D b0 b1 c0 c1 w')) := Lib.hid (fun K W h3 hM => by
      refine (srcChance 3 b A n c zs K W (by omega) (by omega) (by omega) hM.out.s).mono ?_
      rintro e w' ⟨v, rfl, S, hb⟩
      exact ⟨v, rfl, Lib.hid (hM.out.next S.out hb)⟩)
    by_cases hlt' : j < 8
    · have hi : (j : Int) < 8 := by omega
      have M0 := Lib.hid M.out.drew
      clear M
      go_wp2
      go_region_held3 (fun W' => W'.cell? ⟨D, 0, none⟩ = some (.slice (some ⟨b0, 0, none⟩) 8 c0))
        (first | exact (M1.out.setL j v hlt' hv).x.cell 0 rfl | exact M1.out.x.cell 0 rfl | exact M0.out.x.cell 0 rfl)
        (first
          | (go_at_call 53; refine (HN8.out _ _ (by omega) M0).mono ?_; rintro e w6 ⟨v, rfl, hv, M1⟩; obtain ⟨⟨y, hy⟩, hyz⟩ := M1.out.cL j hlt'))
      all_goals (
        have M3 := Lib.hid ((M1.out.setL j v hlt' hv).drew)
        clear hy hyz M0 M1
        go_wp2
        go_region_held3 (fun W' => W'.cell? ⟨D, 1, none⟩ = some (.slice (some ⟨b1, 0, none⟩) 8 c1))
          (first | exact (M4.out.setP j u hlt').x.cell 1 rfl | exact M4.out.x.cell 1 rfl | exact M3.out.x.cell 1 rfl)
          (first
            | (go_at_call 54; refine (HC3.out _ _ (by omega) M3).mono ?_; rintro e w8 ⟨u, rfl, M4⟩; obtain ⟨⟨y, hy⟩, hyz⟩ := M4.out.cP j hlt'))
        all_goals (
          have M5 := Lib.hid (M4.out.setP j u hlt')
          clear hy hyz M3 M4
          go_wp2
          go_roundw
          case rel => exact ⟨j + 1, by omega, by go_num, Lib.hid (M5.out.mono (by omega))⟩
          case measure => simp [intOf]; omega))
    · obtain rfl : j = 8 := by omega
      have x0 := M.out.x.cell 0 rfl
      have x1 := M.out.x.cell 1 rfl
      have t0 := M.out.r.cell 0 rfl
      have t1 := M.out.r.cell 1 rfl
      have t0z := M.out.r.frozen 0
      have t1z := M.out.r.frozen 1
      have HM := Lib.hid M.out
      clear M HN8 HC3
      go_wp2
      refine bodyPost_ret (v := .agg #[.slice (some ⟨b0, 0, none⟩) 8 c0, .slice (some ⟨b1, 0, none⟩) 8 c1]) (by simp [results, Try.results30, go_sem, t0, t1]) rfl ?_
      obtain ⟨ls, l0, a0, O⟩ := HM.out.L
      obtain ⟨ps, l1, O1⟩ := HM.out.P
      have q : Below w.heap.size wr ((wr.setCell ⟨w.heap.size, 0, none⟩ (.slice (some ⟨b0, 0, none⟩) 8 c0)).setCell ⟨w.heap.size, 1, none⟩ (.slice (some ⟨b1, 0, none⟩) 8 c1)) := ((Below.refl _ _).setCell (p := ⟨w.heap.size, 0, none⟩) (Nat.le_refl _) _).setCell (p := ⟨w.heap.size, 1, none⟩) (Nat.le_refl _) _
      exact ⟨ls, ps, _, _, _, _, Lib.hid (okIrq_mk l0 l1 a0), rfl, Lib.hid ⟨(O.two HM.out.r _ _).wideB (Nat.le_refl _) (by rw [size2]; exact Nat.le_refl _), (O1.two HM.out.r _ _).wide (Nat.le_refl _) (by rw [size2]; exact Nat.le_refl _)⟩, Lib.hid (btw_below6 HM.out.btw q (Nat.le_refl _))⟩

set_option maxRecDepth 100000 in
set_option maxHeartbeats 4000000 in
theorem irqDrawn (A : Option Addr) (n c : Nat) (zs : List Nat) (w : World) (hn : n ≤ maxLen) (hl : zs.length = n) (h : ByB w w.heap.size A zs) :
    Calls Try.prog 10 #[.slice A n c] w (GivesIrqX w (fun w' => Below w.heap.size w w')) := by
  obtain ⟨W0, hW0⟩ : ∃ W0, W0 = w.alloc (.cells #[.slice none 0 0, .slice none 0 0] 26) := ⟨_, rfl⟩
  have hb0 : Below w.heap.size w W0 := by rw [hW0]; exact alloc_below _ _
  have HY0 : Hid (Box W0 w.heap.size 26 #[.slice none 0 0, .slice none 0 0]) := Lib.hid (by rw [hW0]; exact Box.new _ _ _)
  have HC := Lib.hid (srcNew A n c zs W0 hn hl (h.step hb0))
  have HF := Lib.hid (fun W (h : Src W W0.heap.size A n c zs 0) => srcIrq W0.heap.size A n c zs 0 W (by omega) h)
  have HW0 := Lib.hid hW0
  clear hn hl h hW0
  go_enter Try.func10, Try.ntmps10
  go_wp2_with fail
  rw [← HW0.out]
  refine HC.out.mono ?_
  rintro e w1 ⟨rfl, S1, hb1⟩
  have HY1 := Lib.hid (HY0.out.step hb1)
  have hsz : w.heap.size + 1 ≤ W0.heap.size := HY0.out.lt
  go_wp2_with fail
  refine (HF.out w1 S1.out).mono ?_
  rintro e w2 ⟨ls, ps, D0, D1, g0, g1, HO, rfl, HA, B2⟩
  have Y2 := Lib.hid (HY1.out.btw B2.out (.inl (by omega)))
  have HB2 := Lib.hid ((hb0.trans (hb1.mono (by omega))).trans ((B2.out.below (hb1.size)).mono (by omega)))
  have hsz1 : W0.heap.size ≤ w1.heap.size := hb1.size
  have t0 := Y2.out.cell 0 rfl
  have t1 := Y2.out.cell 1 rfl
  have t0z := Y2.out.frozen 0
  have t1z := Y2.out.frozen 1
  clear HC HY0 HY1 S1 B2
  go_wp2
  refine bodyPost_ret (v := .agg #[.slice D0 8 g0, .slice D1 8 g1]) (by simp [results, Try.results10, go_sem, t0, t1]) rfl ?_
  exact ⟨ls, ps, D0, D1, g0, g1, HO, rfl, Lib.hid ⟨(HA.out.1.two Y2.out _ _).wideB (by omega) (by rw [size2]; exact Nat.le_refl _), (HA.out.2.two Y2.out _ _).wide (by omega) (by rw [size2]; exact Nat.le_refl _)⟩, Lib.hid (below2 HB2.out (Nat.le_refl _) _ _)⟩
end Go.Proofs.Ytamfapmkdojhcaa

/- laws.at, told exactly; laws.sameTexts. -/
namespace Go.Proofs.Ytamfapmkdojhcaa
open Go.RowKit

/-- The i-th choice out of N that these bytes make. -/
def atOf (zs : List Nat) (i N : Nat) : Nat := if zs.length = 0 then i * 7 % N else (zs.getD (i % zs.length) 0 * 31 + zs.getD ((i + 1) % zs.length) 0 + i / zs.length) % N
theorem atOf_lt (zs : List Nat) (i N : Nat) (h : 0 < N) : atOf zs i N < N := by unfold atOf; split <;> exact Nat.mod_lt _ h

set_option maxRecDepth 100000 in
set_option maxHeartbeats 4000000 in
theorem lawAtE (i N : Nat) (A : Option Addr) (n c : Nat) (zs : List Nat) (w : World) (hi : i ≤ 1000) (hN : 2 ≤ N) (hN2 : N ≤ 5000) (hn : n ≤ 1048576) (hl : zs.length = n) (h : ByB w w.heap.size A zs) :
    Calls Try.prog 11 #[.slice A n c, .int .i64 (i : Nat), .int .i64 (N : Nat)] w fun e w' => e = .returned (.int .i64 (atOf zs i N : Nat)) ∧ Below w.heap.size w w' := by
  have h1 : ¬ (N : Int) ≤ 1 := by omega
  have h3 : ¬ (N : Int) = 0 := by omega
  have hi0 : (0 : Int) ≤ (i : Int) := by omega
  by_cases h0 : n = 0
  · have h0' : (n : Int) = 0 := by omega
    have HA : Hid (atOf zs i N = i * 7 % N) := Lib.hid (by unfold atOf; rw [if_pos (by omega)])
    have u1 : (0 : Int) ≤ (i : Int) * 7 := by omega
    clear h hl
    go_enter Try.func11, Try.ntmps11
    go_wp2
    have e1 : (i : Int) * 7 % (N : Int) = ((i * 7 % N : Nat) : Int) := by simp
    rw [e1]
    refine bodyPost_ret (v := .int .i64 ((i * 7 % N : Nat) : Int)) (by simp [results, Try.results11, go_sem]) rfl ?_
    exact ⟨by rw [HA.out], Below.refl _ _⟩
  · have h0' : ¬ (n : Int) = 0 := by omega
    have HA : Hid (atOf zs i N = (zs.getD (i % n) 0 * 31 + zs.getD ((i + 1) % n) 0 + i / n) % N) := Lib.hid (by unfold atOf; rw [if_neg (by omega), hl])
    obtain ⟨b, off, rfl, hb, hc, hv⟩ := h (i % n) (by rw [hl]; exact Nat.mod_lt _ (by omega))
    obtain ⟨b', off', eA, _, hc', hv'⟩ := h ((i + 1) % n) (by rw [hl]; exact Nat.mod_lt _ (by omega))
    injection eA with eA; injection eA with e1 e2; subst e1 e2
    generalize zs.getD (i % n) 0 = x at hc hv HA
    generalize zs.getD ((i + 1) % n) 0 = y at hc' hv' HA
    obtain ⟨p, hp⟩ : ∃ p, p = i % n := ⟨_, rfl⟩
    obtain ⟨q, hq⟩ : ∃ q, q = (i + 1) % n := ⟨_, rfl⟩
    obtain ⟨r, hr⟩ : ∃ r, r = i / n := ⟨_, rfl⟩
    rw [← hp] at hc
    rw [← hq] at hc'
    have t1 : (i : Int).tmod (n : Int) = (p : Int) := by rw [Int.tmod_eq_emod_of_nonneg (by omega), hp]; simp
    have t2 : ((i : Int) + 1).tmod (n : Int) = (q : Int) := by rw [Int.tmod_eq_emod_of_nonneg (by omega), hq]; simp
    have t3 : (i : Int).tdiv (n : Int) = (r : Int) := by rw [Int.tdiv_eq_ediv_of_nonneg (by omega), hr]; simp
    have hp1 : (p : Int) < (n : Int) := by have := Nat.mod_lt i (show 0 < n by omega); omega
    have hq1 : (q : Int) < (n : Int) := by have := Nat.mod_lt (i + 1) (show 0 < n by omega); omega
    have hr1 : r ≤ 1000 := by rw [hr]; exact Nat.le_trans (Nat.div_le_self _ _) hi
    rw [← hr] at HA
    clear hp hq hr h hl
    have t1' : (i : Int) % (n : Int) = (p : Int) := by rw [← t1, Int.tmod_eq_emod_of_nonneg (by omega)]
    have t2' : ((i : Int) + 1) % (n : Int) = (q : Int) := by rw [← t2, Int.tmod_eq_emod_of_nonneg (by omega)]
    have t3' : (i : Int) / (n : Int) = (r : Int) := by rw [← t3, Int.tdiv_eq_ediv_of_nonneg (by omega)]
    have u0 : IntKind.i64.wrap ((i : Int) + 1) = (i : Int) + 1 := IntWalk.i64_in _ ⟨by omega, by omega⟩
    have u1 : IntKind.i64.wrap (p : Int) = (p : Int) := IntWalk.i64_in _ ⟨by omega, by omega⟩
    have u2 : IntKind.i64.wrap (q : Int) = (q : Int) := IntWalk.i64_in _ ⟨by omega, by omega⟩
    have u3 : IntKind.i64.wrap (r : Int) = (r : Int) := IntWalk.i64_in _ ⟨by omega, by omega⟩
    have u4 : IntKind.i64.wrap (x : Int) = (x : Int) := IntWalk.i64_in _ ⟨by omega, by omega⟩
    have u5 : IntKind.i64.wrap (y : Int) = (y : Int) := IntWalk.i64_in _ ⟨by omega, by omega⟩
    have u6 : IntKind.i64.wrap ((x : Int) * 31) = (x : Int) * 31 := IntWalk.i64_in _ ⟨by omega, by omega⟩
    have u7 : IntKind.i64.wrap ((x : Int) * 31 + (y : Int)) = (x : Int) * 31 + (y : Int) := IntWalk.i64_in _ ⟨by omega, by omega⟩
    have u8 : IntKind.i64.wrap ((x : Int) * 31 + (y : Int) + (r : Int)) = (x : Int) * 31 + (y : Int) + (r : Int) := IntWalk.i64_in _ ⟨by omega, by omega⟩
    obtain ⟨z, hz⟩ : ∃ z, z = (x * 31 + y + r) % N := ⟨_, rfl⟩
    have HA2 : Hid (atOf zs i N = z) := Lib.hid (by rw [HA.out, hz])
    have hz1 : z < N := by rw [hz]; exact Nat.mod_lt _ (by omega)
    have t4' : ((x : Int) * 31 + (y : Int) + (r : Int)) % (N : Int) = (z : Int) := by rw [hz]; simp
    have t4 : ((x : Int) * 31 + (y : Int) + (r : Int)).tmod (N : Int) = (z : Int) := by rw [Int.tmod_eq_emod_of_nonneg (by omega), t4']
    have u9 : IntKind.i64.wrap (z : Int) = (z : Int) := IntWalk.i64_in _ ⟨by omega, by omega⟩
    clear hz
    go_enter Try.func11, Try.ntmps11
    go_wp2
    go_quiet (fail)
    go_wp2
    refine bodyPost_ret (v := .int .i64 (z : Int)) (by simp [results, Try.results11, go_sem]) rfl ?_
    exact ⟨by rw [HA2.out], below_drewN (Below.refl _ _) _⟩

end Go.Proofs.Ytamfapmkdojhcaa

/- The law FnIrq, walked. Written by gen_walkirq.py. -/
namespace Go.Proofs.Ytamfapmkdojhcaa
open Go.RowKit

theorem getD_setB (l : List Bool) (k : Nat) (x : Bool) (h : k < l.length) : (l.set k x).getD k false = x := by
  rw [List.getD_eq_getElem?_getD, List.getElem?_set_self h]; rfl
theorem getD_setI (l : List Int) (k : Nat) (x : Int) (h : k < l.length) : (l.set k x).getD k 0 = x := by
  rw [List.getD_eq_getElem?_getD, List.getElem?_set_self h]; rfl
theorem okIrq_set {ls : List Int} {ps : List Bool} (h : okIrq ls ps = true) (k : Nat) (x : Bool) : okIrq ls (ps.set k x) = true := by
  obtain ⟨h1, h2, -⟩ := okIrq_len h
  rw [okIrq_yes _ _ h1 h2] at h
  exact okIrq_mk h1 (by rw [List.length_set]; exact h2) h
theorem okIrq_lev {ls : List Int} {ps : List Bool} (h : okIrq ls ps = true) (k : Nat) : okIrq (ls.set k 7) ps = true := by
  obtain ⟨h1, h2, -⟩ := okIrq_len h
  rw [okIrq_yes _ _ h1 h2] at h
  exact okIrq_mk (by rw [List.length_set]; exact h1) h2 (all_set6 h k 7 (by decide))
theorem lineC_ok {ls : List Int} {ps : List Bool} (h : okIrq ls ps = true) {k : Nat} (hk : k < 8) : lineC ls ps k = 0 := by unfold lineC; rw [h, lvB_nat hk]; rfl
/-- What is selected of a controller whose line i is pending at level 7, above 6. -/
theorem next_seven {ls : List Int} {ps : List Bool} (h : okIrq ls ps = true) {i : Nat} (hi : i < 8) (hp : ps.getD i false = true) (hl : ls.getD i 0 = 7) : ∃ m : Nat, nextF ls ps 6 8 = m ∧ m < 8 ∧ m ≤ i ∧ ls.getD m 0 = 7 := by
  obtain ⟨h1, h2, h3⟩ := okIrq_len h
  rcases next_says (ls := ls) (ps := ps) (a := 6) 8 with ⟨q1, q2⟩ | ⟨m, q1, q2, q3, q4, q5, q6⟩
  · exact absurd ⟨hp, by omega⟩ (q2 i hi)
  · have hm := h3 (ls.getD m 0) (by rw [List.getD_eq_getElem?_getD, List.getElem?_eq_getElem (by omega)]; exact List.getElem_mem _)
    refine ⟨m, q1, q2, ?_, by omega⟩
    apply Classical.byContradiction; intro c
    have := q6 i (by omega) hp
    omega

/-- A variable that holds a controller of eight lines. -/
structure IV (D : Nat) (A0 A1 : Option Addr) (c0 c1 : Nat) (ls : List Int) (ps : List Bool) (W : World) : Prop where
  x : Box W D 26 #[.slice A0 8 c0, .slice A1 8 c1]
  i0 : IntL W A0 ls
  i1 : BoolL W A1 ps
def PutQ (ls : List Int) (ps : List Bool) (w : World) (e : Ending) (w' : World) : Prop :=
  ∃ A0 A1 c0 c1, e = .returned (.tuple #[.agg #[.slice A0 8 c0, .slice A1 8 c1], .int .i64 0]) ∧ Hid (IntL w' A0 ls ∧ BoolL w' A1 ps) ∧ Below w.heap.size w w'
section
variable {D : Nat} {A0 A1 : Option Addr} {c0 c1 : Nat} {ls : List Int} {ps : List Bool} {W W' : World}
theorem IV.step (h : IV D A0 A1 c0 c1 ls ps W) (hb : Below W.heap.size W W') : IV D A0 A1 c0 c1 ls ps W' := ⟨h.x.step hb, h.i0.below hb, h.i1.below hb⟩
theorem IV.drewN (h : IV D A0 A1 c0 c1 ls ps W) (k : Nat) : IV D A0 A1 c0 c1 ls ps (W.drewN k) := h.step (below_drewN (Below.refl _ _) k)
theorem IV.new (h0 : IntL W A0 ls) (h1 : BoolL W A1 ps) : IV W.heap.size A0 A1 c0 c1 ls ps (W.alloc (.cells #[.slice A0 8 c0, .slice A1 8 c1] 26)) := ⟨Box.new _ _ _, h0.below (alloc_below _ _), h1.below (alloc_below _ _)⟩
theorem PutQ.of {r : List Int × List Bool × Int} {e : Ending} (he : r = (ls, ps, 0)) (h1 : ls.length = 8) (h2 : ps.length = 8) (h : GivesIrqCode r W e W') : PutQ ls ps W e W' := by
  subst he
  obtain ⟨A0, A1, c0, c1, e1, O, hb⟩ := h
  simp only [h1, h2] at e1 O
  refine ⟨A0, A1, c0, c1, e1, Lib.hid ?_, hb⟩
  obtain ⟨⟨⟨a0, b0, q0, o0⟩, ⟨a1, b1, q1, o1⟩, -⟩, -⟩ := O.out
  injection q0 with q0 _ _
  injection q1 with q1 _ _
  subst q0 q1
  exact ⟨o0.reads, o1.reads⟩
theorem m8 : (8 : Nat) ≤ maxLen := by unfold maxLen; omega
set_option maxRecDepth 100000 in
theorem nextI (hok : okIrq ls ps = true) (a : Nat) (ha : a < 8) (q : IV D A0 A1 c0 c1 ls ps W) :
    Calls Try.prog 12 #[.agg #[.slice A0 8 c0, .slice A1 8 c1], .int .i64 a] W fun e w' => e = .returned (.tuple #[.int .i64 (nextF ls ps a 8), .int .i64 0]) ∧ Below W.heap.size W w' := by
  obtain ⟨l1, l2, -⟩ := okIrq_len hok
  have := implNextIrq A0 A1 8 8 c0 c1 ls ps W a l1 l2 m8 m8 q.i0 q.i1
  rwa [show nxtF ls ps a = (nextF ls ps a 8, 0) from by unfold nxtF; rw [hok, lvB_nat ha]; rfl] at this
set_option maxRecDepth 100000 in
theorem nextQ (hok : okIrq ls ps = true) (a : Nat) (ha : a < 8) (q : IV D A0 A1 c0 c1 ls ps W) :
    Calls Try.prog 13 #[.agg #[.slice A0 8 c0, .slice A1 8 c1], .int .i64 a] W fun e w' => e = .returned (.tuple #[.int .i64 (nextF ls ps a 8), .int .i64 0]) ∧ Below W.heap.size W w' := by
  obtain ⟨l1, l2, -⟩ := okIrq_len hok
  have := specNextIrq A0 A1 8 8 c0 c1 ls ps W a l1 l2 m8 m8 q.i0 q.i1
  rwa [show nxtF ls ps a = (nextF ls ps a 8, 0) from by unfold nxtF; rw [hok, lvB_nat ha]; rfl] at this
set_option maxRecDepth 100000 in
theorem raiseI (hok : okIrq ls ps = true) (k : Nat) (hk : k < 8) (q : IV D A0 A1 c0 c1 ls ps W) : Calls Try.prog 14 #[.agg #[.slice A0 8 c0, .slice A1 8 c1], .int .i64 k] W (PutQ ls (ps.set k true) W) := by
  obtain ⟨l1, l2, -⟩ := okIrq_len hok
  exact (implRaise A0 A1 8 8 c0 c1 ls ps W k l1 l2 m8 m8 q.i0 q.i1).mono fun _ _ h => .of (by unfold pendF; rw [if_pos (lineC_ok hok hk)]; rfl) l1 (by rw [List.length_set]; exact l2) h
set_option maxRecDepth 100000 in
theorem ackI (hok : okIrq ls ps = true) (k : Nat) (hk : k < 8) (q : IV D A0 A1 c0 c1 ls ps W) : Calls Try.prog 16 #[.agg #[.slice A0 8 c0, .slice A1 8 c1], .int .i64 k] W (PutQ ls (ps.set k false) W) := by
  obtain ⟨l1, l2, -⟩ := okIrq_len hok
  exact (implAck A0 A1 8 8 c0 c1 ls ps W k l1 l2 m8 m8 q.i0 q.i1).mono fun _ _ h => .of (by unfold pendF; rw [if_pos (lineC_ok hok hk)]; rfl) l1 (by rw [List.length_set]; exact l2) h
set_option maxRecDepth 100000 in
theorem levelI (hok : okIrq ls ps = true) (k : Nat) (hk : k < 8) (q : IV D A0 A1 c0 c1 ls ps W) : Calls Try.prog 15 #[.agg #[.slice A0 8 c0, .slice A1 8 c1], .int .i64 k, .int .i64 7] W (PutQ (ls.set k 7) ps W) := by
  obtain ⟨l1, l2, -⟩ := okIrq_len hok
  exact (implSetLevel A0 A1 8 8 c0 c1 ls ps W k 7 l1 l2 m8 m8 q.i0 q.i1).mono fun _ _ h => .of (by unfold levF; rw [if_pos (lineC_ok hok hk), if_pos (by decide)]; rfl) (by rw [List.length_set]; exact l1) l2 h
set_option maxRecDepth 100000 in
theorem okI (hok : okIrq ls ps = true) (q : IV D A0 A1 c0 c1 ls ps W) : Calls Try.prog 17 #[.agg #[.slice A0 8 c0, .slice A1 8 c1]] W fun e w' => e = .returned (.bool true) ∧ Below W.heap.size W w' := by
  obtain ⟨l1, l2, -⟩ := okIrq_len hok
  have := implIrqOK A0 A1 8 8 c0 c1 ls ps W l1 l2 m8 m8 q.i0
  rwa [hok] at this
end

set_option maxRecDepth 100000 in
theorem fieldL (v u : Value) (w : World) : (Instr.field 26 (.agg #[v, u]) 0).run Try.prog w = .ok v w := by
  kernel_rfl
set_option maxRecDepth 100000 in
set_option maxHeartbeats 16000000 in
theorem walkIrq (A : Option Addr) (n c : Nat) (zs : List Nat) (A' : Option Addr) (n' c' : Nat) (zs' : List Nat) (w : World) (hl : zs.length = n) (hl' : zs'.length = n') (hn : n ≤ maxLen) (hn' : n' ≤ maxLen) (h : ByB w w.heap.size A zs) (h' : ByB w w.heap.size A' zs') :
    Calls Try.prog 3 #[.slice A n c, .slice A' n' c'] w fun e w' => e = .returned (.bool true) ∧ Below w.heap.size w w' := by
  unfold maxLen at hn hn'
  by_cases hle : n ≤ 1048576
  · by_cases hle' : n' ≤ 1048576
    · have i1 : ¬ (1048576 : Int) < (n : Int) := by omega
      have i2 : ¬ (1048576 : Int) < (n' : Int) := by omega
      have HD := Lib.hid (irqDrawn A n c zs w (by unfold maxLen; omega) hl h)
      have HA0 : Hid (∀ W, Below w.heap.size w W → Calls Try.prog 11 #[.slice A' n' c', .int .i64 0, .int .i64 8] W fun e w' => e = .returned (.int .i64 (atOf zs' 0 8 : Nat)) ∧ Below W.heap.size W w') := Lib.hid (fun W hb => lawAtE 0 8 A' n' c' zs' W (by omega) (by omega) (by omega) hle' hl' (h'.step hb))
      have HA1 : Hid (∀ W, Below w.heap.size w W → Calls Try.prog 11 #[.slice A' n' c', .int .i64 1, .int .i64 8] W fun e w' => e = .returned (.int .i64 (atOf zs' 1 8 : Nat)) ∧ Below W.heap.size W w') := Lib.hid (fun W hb => lawAtE 1 8 A' n' c' zs' W (by omega) (by omega) (by omega) hle' hl' (h'.step hb))
      have ha := atOf_lt zs' 0 8 (by omega)
      have hi := atOf_lt zs' 1 8 (by omega)
      generalize atOf zs' 0 8 = a at HA0 ha
      generalize atOf zs' 1 8 = i at HA1 hi
      have hii : (i : Int) < 8 := by omega
      clear hl hl' hn hn' h h'
      go_enter Try.func3, Try.ntmps3
      go_wp2_with fail
      refine HD.out.mono ?_
      rintro e w1 ⟨ls, ps, B0, B1, e0, e1, HO, rfl, HI, HB1⟩
      obtain ⟨w2, hw2⟩ : ∃ w2, w2 = w1.alloc (.cells #[.slice B0 8 e0, .slice B1 8 e1] 26) := ⟨_, rfl⟩
      have Q2 : Hid (IV w1.heap.size B0 B1 e0 e1 ls ps w2) := Lib.hid (by rw [hw2]; exact IV.new HI.out.1.reads HI.out.2.reads)
      have hb2 : Below w.heap.size w w2 := by rw [hw2]; exact bt HB1.out (alloc_below _ _)
      obtain ⟨D1, hD1⟩ : ∃ D1, D1 = w1.heap.size := ⟨_, rfl⟩
      rw [← hD1] at Q2
      have HW2 := Lib.hid hw2
      have HLn := Lib.hid (okIrq_len HO.out)
      clear hw2 HI HB1 HD
      go_wp2_with fail
      rw [← HW2.out]
      refine (HA0.out w2 hb2).mono ?_
      rintro e w3 ⟨rfl, k3⟩
      have hb3 := bt hb2 k3
      have Q3 := Lib.hid (Q2.out.step k3)
      have HN3 := Lib.hid (nextI HO.out a ha Q3.out)
      have HNs := Lib.hid (fun W (q : IV D1 B0 B1 e0 e1 ls ps W) => nextQ HO.out a ha q)
      have HSay := Lib.hid (next_says (ls := ls) (ps := ps) (a := a) 8)
      generalize nextF ls ps a 8 = kk at HN3 HNs HSay
      have q0 := Q3.out.x.cell 0 rfl
      have q1 := Q3.out.x.cell 1 rfl
      rw [hD1] at q0 q1
      clear Q2 k3 hb2 HA0 HW2
      go_wp2_with fail
      refine HN3.out.mono ?_
      rintro e w4 ⟨rfl, k4⟩
      have hb4 := bt hb3 k4
      have Q4 := Lib.hid (Q3.out.step k4)
      have HN4 := Lib.hid (HNs.out w4 Q4.out)
      clear q0 q1
      have q0 := Q4.out.x.cell 0 rfl
      have q1 := Q4.out.x.cell 1 rfl
      rw [hD1] at q0 q1
      clear Q3 k4 hb3 HN3 HNs
      go_wp2_with fail
      refine HN4.out.mono ?_
      rintro e w5 ⟨rfl, k5⟩
      have hb5 := bt hb4 k5
      have Q5 := Lib.hid (Q4.out.step k5)
      clear Q4 k5 hb4 HN4 q0 q1
      go_wp2_with fail
      refine (HA1.out w5 hb5).mono ?_
      rintro e w6 ⟨rfl, k6⟩
      have hb6 := bt hb5 k6
      have Q6 := Lib.hid (Q5.out.step k6)
      have HR6 := Lib.hid (raiseI HO.out i hi Q6.out)
      have q0 := Q6.out.x.cell 0 rfl
      have q1 := Q6.out.x.cell 1 rfl
      rw [hD1] at q0 q1
      have HOr := Lib.hid (okIrq_set HO.out i true)
      have HPr := Lib.hid (getD_setB ps i true (by rw [HLn.out.2.1]; exact hi))
      generalize ps.set i true = px at HR6 HOr HPr
      clear Q5 k6 hb5 HA1
      go_wp2_with fail
      refine HR6.out.mono ?_
      rintro e w7 ⟨C0, C1, f0, f1, rfl, HI, k7⟩
      obtain ⟨w8, hw8⟩ : ∃ w8, w8 = w7.alloc (.cells #[.slice C0 8 f0, .slice C1 8 f1] 26) := ⟨_, rfl⟩
      have k8 : Below w7.heap.size w7 w8 := by rw [hw8]; exact alloc_below _ _
      have R8 : Hid (IV w7.heap.size C0 C1 f0 f1 ls px w8) := Lib.hid (by rw [hw8]; exact IV.new HI.out.1 HI.out.2)
      have Q8 := Lib.hid ((Q6.out.step k7).step k8)
      have hb8 := bt (bt hb6 k7) k8
      have HL8 := Lib.hid (levelI HOr.out i hi R8.out)
      obtain ⟨D2, hD2⟩ : ∃ D2, D2 = w7.heap.size := ⟨_, rfl⟩
      clear q0 q1
      have r0 := R8.out.x.cell 0 rfl
      have r1 := R8.out.x.cell 1 rfl
      rw [hw8] at r0 r1
      have HW8 := Lib.hid hw8
      have HOx := Lib.hid (okIrq_lev HOr.out i)
      have HLx := Lib.hid (getD_setI ls i 7 (by rw [HLn.out.1]; exact hi))
      generalize ls.set i 7 = lx at HL8 HOx HLx
      clear hw8 HI k7 k8 Q6 hb6 HR6
      go_wp2_with fail
      rw [← HW8.out]
      refine HL8.out.mono ?_
      rintro e w9 ⟨E0, E1, g0, g1, rfl, HI, k9⟩
      obtain ⟨w10, hw10⟩ : ∃ w10, w10 = w9.alloc (.cells #[.slice E0 8 g0, .slice E1 8 g1] 26) := ⟨_, rfl⟩
      have k10 : Below w9.heap.size w9 w10 := by rw [hw10]; exact alloc_below _ _
      have X10 : Hid (IV w9.heap.size E0 E1 g0 g1 lx px w10) := Lib.hid (by rw [hw10]; exact IV.new HI.out.1 HI.out.2)
      have Q10 := Lib.hid ((Q8.out.step k9).step k10)
      have hb10 := bt (bt hb8 k9) k10
      have HN10 : Hid (Calls Try.prog 12 #[.agg #[.slice E0 8 g0, .slice E1 8 g1], .int .i64 6] w10 fun e w' => e = .returned (.tuple #[.int .i64 (nextF lx px 6 8), .int .i64 0]) ∧ Below w10.heap.size w10 w') := Lib.hid (nextI HOx.out 6 (by omega) X10.out)
      obtain ⟨D3, hD3⟩ : ∃ D3, D3 = w9.heap.size := ⟨_, rfl⟩
      obtain ⟨m, hm1, hm2, hm3, hm4⟩ := next_seven HOx.out hi HPr.out HLx.out
      rw [hm1] at HN10
      clear r0 r1
      have x0 := X10.out.x.cell 0 rfl
      have x1 := X10.out.x.cell 1 rfl
      rw [hw10] at x0 x1
      have HW10 := Lib.hid hw10
      clear hw10 HI k9 k10 Q8 R8 hb8 HL8 HW8 hm1
      go_wp2_with fail
      rw [← HW10.out]
      refine HN10.out.mono ?_
      rintro e w11 ⟨rfl, k11⟩
      have X11 := Lib.hid (X10.out.step k11)
      have Q11 := Lib.hid (Q10.out.step k11)
      have hb11 := bt hb10 k11
      have HK11 := Lib.hid (ackI HOx.out i hi X11.out)
      clear x0 x1
      have x0 := X11.out.x.cell 0 rfl
      have x1 := X11.out.x.cell 1 rfl
      have HOy := Lib.hid (okIrq_set HOx.out i false)
      have HPy := Lib.hid (getD_setB px i false (by have := (okIrq_len HOx.out).2.1; omega))
      have HLy : Hid (i < (px.set i false).length) := Lib.hid (by have := (okIrq_len HOy.out).2.1; omega)
      generalize px.set i false = py at HK11 HOy HPy HLy
      clear X10 Q10 k11 hb10 HN10 HW10
      go_wp2_with fail
      refine HK11.out.mono ?_
      rintro e w12 ⟨F0, F1, h0, h1, rfl, HI, k12⟩
      obtain ⟨w13, hw13⟩ : ∃ w13, w13 = w12.alloc (.cells #[.slice F0 8 h0, .slice F1 8 h1] 26) := ⟨_, rfl⟩
      have k13 : Below w12.heap.size w12 w13 := by rw [hw13]; exact alloc_below _ _
      have Y13 : Hid (IV w12.heap.size F0 F1 h0 h1 lx py w13) := Lib.hid (by rw [hw13]; exact IV.new HI.out.1 HI.out.2)
      have Q13 := Lib.hid ((Q11.out.step k12).step k13)
      have X13 := Lib.hid ((X11.out.step k12).step k13)
      have hb13 := bt (bt hb11 k12) k13
      have HK13 := Lib.hid (okI HOy.out Y13.out)
      clear x0 x1
      have y0 := Y13.out.x.cell 0 rfl
      have y1 := Y13.out.x.cell 1 rfl
      rw [hw13] at y0 y1
      have HW13 := Lib.hid hw13
      have hkk : (kk != kk) = false := by simp
      clear hw13 HI k12 k13 Q11 X11 hb11 HK11
      go_wp2_with fail
      rw [← HW13.out]
      refine HK13.out.mono ?_
      rintro e w14 ⟨rfl, k14⟩
      have Y14 := Lib.hid (Y13.out.step k14)
      have X14 := Lib.hid (X13.out.step k14)
      have Q14 := Lib.hid (Q13.out.step k14)
      have hb14 := bt hb13 k14
      clear y0 y1
      have x0 := X14.out.x.cell 0 rfl
      have x1 := X14.out.x.cell 1 rfl
      have y0 := Y14.out.x.cell 0 rfl
      have y1 := Y14.out.x.cell 1 rfl
      obtain ⟨bl, ol, rfl, hxl⟩ := X14.out.i0 i (by have := (okIrq_len HOx.out).1; omega)
      obtain ⟨bl', ol', el, hxm⟩ := X14.out.i0 m (by have := (okIrq_len HOx.out).1; omega)
      injection el with el; injection el with z1 z2; subst z1 z2
      obtain ⟨bp, op, rfl, hxp⟩ := X14.out.i1 i (by have := (okIrq_len HOx.out).2.1; omega)
      obtain ⟨by', oy, rfl, hyp⟩ := Y14.out.i1 i HLy.out
      rw [HPr.out] at hxp
      rw [HPy.out] at hyp
      rw [HLx.out] at hxl
      rw [hm4] at hxm
      have HNw := Lib.hid (implNewIrq w14)
      have hmn : ¬ ((m : Int) < 0) := by omega
      have hmi : ¬ ((i : Int) < (m : Int)) := by omega
      have hm8' : (m : Int) < 8 := by omega
      have hmn2 : decide ((m : Int) < 0) = false := decide_eq_false (by omega)
      have hmi2 : decide (i < m) = false := decide_eq_false (by omega)
      have hmi3 : decide ((i : Int) < (m : Int)) = false := decide_eq_false (by omega)
      clear Y13 X13 Q13 k14 hb13 HK13 HW13 HOr HOx HOy HPr HPy HLx HLy hm4
      go_wp2_with fail
      refine HNw.out.mono ?_
      rintro e w15 ⟨G0, G1, j0, j1, rfl, -, k15⟩
      have hfl := fieldL (.slice G0 8 j0) (.slice G1 8 j1) w15
      have Q15 := Lib.hid (Q14.out.step k15)
      have hb15 := bt hb14 k15
      clear Y14 X14 Q14 k15 hb14 HNw x0 x1 y0 y1 hxl hxm hxp hyp hmn hmi hm8' hmn2 hmi2 hmi3 hD2 hD3 hm3
      go_wp2
      rw [← hD1]
      clear hD1
      go_loopw [20] (fun q wr => ∃ l : Nat, l ≤ 8 ∧ q = .int .i64 l ∧ Below w.heap.size w wr ∧ Hid (IV D1 B0 B1 e0 e1 ls ps wr)) (fun q _ => 8 - (intOf q).toNat)
      case atStart => exact ⟨0, by omega, rfl, hb15, Q15⟩
      case round =>
        clear hb15 Q15
        obtain ⟨l, hl, rfl, hbw, Q⟩ := hrel
        have q0 := Q.out.x.cell 0 rfl
        have q1 := Q.out.x.cell 1 rfl
        by_cases hlt : l < 8
        · have hli : (l : Int) < 8 := by omega
          obtain ⟨b, off, rfl, hc⟩ := Q.out.i0 l (by rw [HLn.out.1]; exact hlt)
          obtain ⟨b', off', rfl, hp⟩ := Q.out.i1 l (by rw [HLn.out.2.1]; exact hlt)
          have hsay : (kk = -1 ∧ ¬ (ps.getD l false = true ∧ (a : Int) < ls.getD l 0)) ∨ ∃ t : Nat, kk = t ∧ t < 8 ∧ (a : Int) < ls.getD t 0 ∧ (ps.getD l false = true → ls.getD l 0 ≤ ls.getD t 0 ∨ ls.getD l 0 ≤ a) := by
            rcases HSay.out with ⟨s1, s2⟩ | ⟨t, s1, s2, s3, s4, s5, s6⟩
            · exact .inl ⟨s1, s2 l hlt⟩
            · exact .inr ⟨t, s1, s2, s4, s5 l hlt⟩
          generalize ls.getD l 0 = x at hc hsay
          generalize ps.getD l false = p at hp hsay
          cases p
          · clear hsay
            go_wp2
            go_quiet (fail)
            go_wp2
            go_roundw
            case rel => first | exact ⟨l + 1, by omega, by go_num, below_drewN hbw _, Lib.hid (Q.out.drewN _)⟩ | ((repeat apply Exists.intro); refine ⟨?_, rfl⟩; exact ⟨l + 1, by omega, by go_num, below_drewN hbw _, Lib.hid (Q.out.drewN _)⟩)
            case measure => simp [intOf]; omega
          · by_cases hx : (a : Int) < x
            · have hx' : decide ((a : Int) < x) = true := by simpa using hx
              rcases hsay with ⟨s1, s2⟩ | ⟨t, s1, s2, s3, s4⟩
              · exact absurd ⟨rfl, hx⟩ s2
              · obtain ⟨bt', ot, et, hct⟩ := Q.out.i0 t (by rw [HLn.out.1]; exact s2)
                injection et with et; injection et with z1 z2; subst z1 z2
                have hyt : ¬ (ls.getD t 0 < x) := by rcases s4 rfl with z | z <;> omega
                generalize ls.getD t 0 = y at hct hyt
                have hy' : decide (y < x) = false := by simpa using hyt
                subst s1
                have htn : ¬ ((t : Int) < 0) := by omega
                have ht8 : (t : Int) < 8 := by omega
                have htn2 : decide ((t : Int) < 0) = false := decide_eq_false (by omega)
                clear s3 s4
                go_wp2
                go_quiet (fail)
                go_wp2
                go_roundw
                case rel => first | exact ⟨l + 1, by omega, by go_num, below_drewN hbw _, Lib.hid (Q.out.drewN _)⟩ | ((repeat apply Exists.intro); refine ⟨?_, rfl⟩; exact ⟨l + 1, by omega, by go_num, below_drewN hbw _, Lib.hid (Q.out.drewN _)⟩)
                case measure => simp [intOf]; omega
            · have hx' : decide ((a : Int) < x) = false := by simpa using hx
              clear hsay
              go_wp2
              go_quiet (fail)
              go_wp2
              go_roundw
              case rel => first | exact ⟨l + 1, by omega, by go_num, below_drewN hbw _, Lib.hid (Q.out.drewN _)⟩ | ((repeat apply Exists.intro); refine ⟨?_, rfl⟩; exact ⟨l + 1, by omega, by go_num, below_drewN hbw _, Lib.hid (Q.out.drewN _)⟩)
              case measure => simp [intOf]; omega
        · rcases HSay.out with ⟨s1, -⟩ | ⟨t, s1, s2, s3, -⟩
          · subst s1
            go_wp2
            go_ret
            exact ⟨rfl, hbw⟩
          · obtain ⟨b', off', rfl, hp⟩ := Q.out.i1 t (by rw [HLn.out.2.1]; exact s2)
            rw [s3] at hp
            subst s1
            have htn : ¬ ((t : Int) < 0) := by omega
            have ht8 : (t : Int) < 8 := by omega
            go_wp2
            go_ret
            exact ⟨rfl, hbw⟩
    · have i1 : ¬ (1048576 : Int) < (n : Int) := by omega
      have i2 : (1048576 : Int) < (n' : Int) := by omega
      clear h h'
      go_enter Try.func3, Try.ntmps3
      go_wp2
      go_ret
      exact ⟨rfl, Below.refl _ _⟩
  · have i1 : (1048576 : Int) < (n : Int) := by omega
    clear h h'
    go_enter Try.func3, Try.ntmps3
    go_wp2
    go_ret
    exact ⟨rfl, Below.refl _ _⟩
end Go.Proofs.Ytamfapmkdojhcaa

/- A disk that came in, opened: its two slices as lists. Nothing here walks. -/
namespace Go.Proofs.Ytamfapmkdojhcaa
open Go.RowKit Go.ChangeShapes Go.WideShapes

section
variable {H : Type} {enc : TypeId × Value → H} {P : Program} {w : World} {spare : Nat → Bool} {held : Bool}

theorem getD_range {α : Type} (n : Nat) (f : Nat → α) (d : α) (i : Nat) (h : i < n) : ((List.range n).map f).getD i d = f i := by
  simp [List.getD_eq_getElem?_getD, h]

theorem add_plain {a : Addr} {b off i : Nat} {v : Value} (h : w.cell? (a.add i) = some v) (ha : a = ⟨b, off, none⟩) : w.cell? ⟨b, off + i, none⟩ = some v := by
  subst ha
  unfold Addr.add at h
  by_cases hi : i = 0
  · subst hi; simpa using h
  · rw [if_neg hi] at h; exact h

theorem open_strs {t e : TypeId} {fuel : Nat} {v : Value} {x : DataW H × List MemPlace} (ht : P.underlying t = some (.slice e)) (he : P.underlying e = some .string) (hce : P.cellsOf e = 1)
    (h : DataW.trod enc P w 0 spare held fuel t [v] = some x) :
    ∃ A n c, ∃ ss : List ByteArray, v = .slice A n c ∧ ss.length = n ∧ n ≤ maxLen ∧ StrL w A ss ∧ FitS ss := by
  rcases Deep.open_slice1 ht hce h with ⟨hcs, _⟩ | ⟨a, len, cap, m, k, V, D, Pl, hcs, _, hl, hm, hmm, _, hx⟩
  · injection hcs with hv _
    exact ⟨none, 0, 0, [], hv, rfl, by unfold maxLen; omega, fun i hi => by simp at hi, fun s hs => by simp at hs⟩
  · injection hcs with hv _
    have hlm : len ≤ m := by rw [hmm]; split <;> omega
    obtain ⟨S, hS⟩ := Deep.choose_lt (n := len) (p := fun i (s : ByteArray) => w.cell? (a.add i) = some (.string s) ∧ s.size ≤ maxLen) (fun i hi => by
      obtain ⟨h1, h2⟩ := hx i (by omega)
      obtain ⟨s, hc, _, hs⟩ := DataW.trod_string he h2
      injection hc with hc _
      exact ⟨s, by rw [← hc]; exact h1, hs⟩)
    refine ⟨some a, len, cap, (List.range len).map S, hv, by simp, by omega, fun i hi => ?_, fun s hs => ?_⟩
    · have hi' : i < len := by simpa using hi
      have h0 := (hS 0 (by omega)).1
      have hsp := World.cell?_spot h0
      obtain ⟨b, off, spot⟩ := a
      have hsp' : spot = none := by simpa [Addr.add] using hsp
      subst hsp'
      exact ⟨b, off, rfl, by rw [getD_range len S _ i hi']; exact add_plain (hS i hi').1 rfl⟩
    · obtain ⟨i, hi, rfl⟩ := List.mem_map.1 hs
      exact (hS i (by simpa using hi)).2

theorem open_writes {t e : TypeId} {f0 f1 : Field} {fuel : Nat} {v : Value} {x : DataW H × List MemPlace} (ht : P.underlying t = some (.slice e)) (he : P.underlying e = some (.struct #[f0, f1])) (hce : P.cellsOf e = 2)
    (h0 : P.underlying f0.type = some (.int .i64)) (h1 : P.underlying f1.type = some .string) (c0 : P.cellsOf f0.type = 1) (c1 : P.cellsOf f1.type = 1) (o0 : f0.offset = 0) (o1 : f1.offset = 1)
    (h : DataW.trod enc P w 0 spare held fuel t [v] = some x) :
    ∃ A n c, ∃ ws : List (Int × ByteArray), v = .slice A n c ∧ ws.length = n ∧ n ≤ maxLen ∧ WrL w A ws ∧ FitW ws := by
  rcases Deep.open_slice ht h with ⟨hcs, _⟩ | ⟨a, len, cap, m, k, D, Pl, hcs, _, hl, hm, hmm, _, hx⟩
  · injection hcs with hv _
    exact ⟨none, 0, 0, [], hv, rfl, by unfold maxLen; omega, fun i hi => by simp at hi, fun s hs => by simp at hs⟩
  · injection hcs with hv _
    have hlm : len ≤ m := by rw [hmm]; split <;> omega
    rw [hce] at hx
    obtain ⟨S, hS⟩ := Deep.choose_lt (n := len) (p := fun i (s : Int × ByteArray) => w.cell? ((a.add (i * 2)).add 0) = some (.int .i64 s.1) ∧ w.cell? ((a.add (i * 2)).add 1) = some (.string s.2) ∧ s.2.size ≤ maxLen) (fun i hi => by
      obtain ⟨cs, g1, g2⟩ := hx i (by omega)
      obtain ⟨_, hlen, hcell⟩ := World.cells?_some g1
      obtain ⟨y0, y1, q, _, _, g3, g4⟩ := trod_struct2 he g2
      rw [o0, c0] at g3
      rw [o1, c1] at g4
      obtain ⟨u0, u1, rfl⟩ : ∃ u0 u1, cs = [u0, u1] := by
        match cs, hlen with
        | [u0, u1], _ => exact ⟨u0, u1, rfl⟩
      obtain ⟨z, hz, _, _⟩ := DataW.trod_int h0 g3
      obtain ⟨s, hs, _, hsz⟩ := DataW.trod_string h1 g4
      simp at hz hs
      have k0 := hcell 0 (by omega)
      have k1 := hcell 1 (by omega)
      simp at k0 k1
      exact ⟨(z, s), by rw [k0, hz], by rw [k1, hs], hsz⟩)
    refine ⟨some a, len, cap, (List.range len).map S, hv, by simp, by omega, fun i hi => ?_, fun s hs => ?_⟩
    · have hi' : i < len := by simpa using hi
      have h0 := (hS 0 (by omega)).1
      have hsp := World.cell?_spot h0
      obtain ⟨b, off, spot⟩ := a
      have hsp' : spot = none := by simpa [Addr.add] using hsp
      subst hsp'
      refine ⟨b, off, rfl, ?_, ?_⟩
      · rw [getD_range len S _ i hi']
        have := (hS i hi').1
        rw [Deep.add_add] at this
        exact add_plain this rfl
      · rw [getD_range len S _ i hi']
        have := (hS i hi').2.1
        rw [Deep.add_add] at this
        have := add_plain (b := b) (off := off) this rfl
        rwa [← Nat.add_assoc] at this
    · obtain ⟨i, hi, rfl⟩ := List.mem_map.1 hs
      exact (hS i (by simpa using hi)).2.2

theorem open_ints64 {t e : TypeId} {fuel : Nat} {v : Value} {x : DataW H × List MemPlace} (ht : P.underlying t = some (.slice e)) (he : P.underlying e = some (.int .i64)) (hce : P.cellsOf e = 1)
    (h : DataW.trod enc P w 0 spare held fuel t [v] = some x) :
    ∃ A n c, ∃ zs : List Int, v = .slice A n c ∧ zs.length = n ∧ n ≤ maxLen ∧ IntL w A zs ∧ ∀ z ∈ zs, (Lit.int .i64 z).wf = true := by
  rcases Deep.open_slice1 ht hce h with ⟨hcs, _⟩ | ⟨a, len, cap, m, k, V, D, Pl, hcs, _, hl, hm, hmm, _, hx⟩
  · injection hcs with hv _
    exact ⟨none, 0, 0, [], hv, rfl, by unfold maxLen; omega, fun i hi => by simp at hi, fun s hs => by simp at hs⟩
  · injection hcs with hv _
    have hlm : len ≤ m := by rw [hmm]; split <;> omega
    obtain ⟨S, hS⟩ := Deep.choose_lt (n := len) (p := fun i (s : Int) => w.cell? (a.add i) = some (.int .i64 s) ∧ (Lit.int .i64 s).wf = true) (fun i hi => by
      obtain ⟨h1, h2⟩ := hx i (by omega)
      obtain ⟨s, hc, _, hs⟩ := DataW.trod_int he h2
      injection hc with hc _
      exact ⟨s, by rw [← hc]; exact h1, hs⟩)
    refine ⟨some a, len, cap, (List.range len).map S, hv, by simp, by omega, fun i hi => ?_, fun s hs => ?_⟩
    · have hi' : i < len := by simpa using hi
      have h0 := (hS 0 (by omega)).1
      have hsp := World.cell?_spot h0
      obtain ⟨b, off, spot⟩ := a
      have hsp' : spot = none := by simpa [Addr.add] using hsp
      subst hsp'
      exact ⟨b, off, rfl, by rw [getD_range len S _ i hi']; exact add_plain (hS i hi').1 rfl⟩
    · obtain ⟨i, hi, rfl⟩ := List.mem_map.1 hs
      exact (hS i (by simpa using hi)).2
end

set_option maxRecDepth 100000 in
theorem cellsStr : Try.prog.cellsOf 9 = 1 := by kernel_rfl
set_option maxRecDepth 100000 in
theorem cellsInt : Try.prog.cellsOf 3 = 1 := by kernel_rfl
end Go.Proofs.Ytamfapmkdojhcaa

/- A []byte that came in, opened: its bytes as numbers below 256, in a block that is there. -/
namespace Go.Proofs.Ytamfapmkdojhcaa
open Go.RowKit Go.ChangeShapes Go.WideShapes

theorem open_bytes {H : Type} {enc : TypeId × Value → H} {P : Program} {w : World} {spare : Nat → Bool} {held : Bool} {t e : TypeId} {fuel : Nat} {v : Value} {x : DataW H × List MemPlace} (ht : P.underlying t = some (.slice e)) (he : P.underlying e = some (.int .u8)) (hce : P.cellsOf e = 1)
    (h : DataW.trod enc P w 0 spare held fuel t [v] = some x) :
    ∃ A n c, ∃ zs : List Nat, v = .slice A n c ∧ zs.length = n ∧ n ≤ maxLen ∧ ByB w w.heap.size A zs := by
  rcases Deep.open_slice1 ht hce h with ⟨hcs, _⟩ | ⟨a, len, cap, m, k, V, D, Pl, hcs, _, hl, hm, hmm, _, hx⟩
  · injection hcs with hv _
    exact ⟨none, 0, 0, [], hv, rfl, by unfold maxLen; omega, fun i hi => by simp at hi⟩
  · injection hcs with hv _
    have hlm : len ≤ m := by rw [hmm]; split <;> omega
    obtain ⟨S, hS⟩ := Deep.choose_lt (n := len) (p := fun i (s : Nat) => w.cell? (a.add i) = some (.int .u8 (s : Int)) ∧ s < 256) (fun i hi => by
      obtain ⟨h1, h2⟩ := hx i (by omega)
      obtain ⟨s, hc, _, hs⟩ := DataW.trod_int he h2
      injection hc with hc _
      have hr : 0 ≤ s ∧ s < 256 := by
        have hs' : decide (IntKind.u8.min ≤ s) && decide (s ≤ IntKind.u8.max) := hs
        rw [Bool.and_eq_true, decide_eq_true_eq, decide_eq_true_eq] at hs'
        have e1 : IntKind.u8.min = 0 := by decide
        have e2 : IntKind.u8.max = 255 := by decide
        rw [e1, e2] at hs'
        omega
      exact ⟨s.toNat, by rw [h1, hc, Int.toNat_of_nonneg hr.1], by omega⟩)
    refine ⟨some a, len, cap, (List.range len).map S, hv, by simp, by omega, fun i hi => ?_⟩
    have hi' : i < len := by simpa using hi
    have h0 := (hS 0 (by omega)).1
    have hsp := World.cell?_spot h0
    obtain ⟨b, off, spot⟩ := a
    have hsp' : spot = none := by simpa [Addr.add] using hsp
    subst hsp'
    have hc := add_plain (hS i hi').1 rfl
    refine ⟨b, off, rfl, cell_lt hc, ?_, ?_⟩
    · rw [getD_range len S _ i hi']; exact hc
    · rw [getD_range len S _ i hi']; exact (hS i hi').2
set_option maxRecDepth 100000 in
theorem cellsU8 : Try.prog.cellsOf 5 = 1 := by kernel_rfl
end Go.Proofs.Ytamfapmkdojhcaa
