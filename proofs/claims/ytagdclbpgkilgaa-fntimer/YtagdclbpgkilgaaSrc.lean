/- The model's source of draws: byte, next, chance. -/
import Derived.Test.YtagdclbpgkilgaaCrash
import Derived.StillTailTactics
import Derived.IntWalk
namespace Go.Proofs.Ytagdclbpgkilgaa
open Go.RowKit

/-- The slice at A holds these bytes, in a block below lo. -/
def ByB (w : World) (lo : Nat) (A : Option Addr) (zs : List Nat) : Prop :=
  ∀ i, i < zs.length → ∃ b off, A = some ⟨b, off, none⟩ ∧ b < lo ∧ w.cell? ⟨b, off + i, none⟩ = some (.int .u8 (zs.getD i 0 : Nat)) ∧ zs.getD i 0 < 256
theorem ByB.btw {w w' : World} {lo l h' : Nat} {A : Option Addr} {zs : List Nat} (h : ByB w lo A zs) (hb : Btw l h' w w') (ho : lo ≤ l) : ByB w' lo A zs := fun i hi => by
  obtain ⟨b, off, e, q1, q2, q3⟩ := h i hi
  exact ⟨b, off, e, q1, hb.cell q2 (.inl (by show b < l; omega)), q3⟩
/-- The source at b: its bytes, how many are drawn (at most K), a seed. -/
def Src (w : World) (b : Nat) (A : Option Addr) (n c : Nat) (zs : List Nat) (K : Nat) : Prop :=
  ∃ k sd : Nat, Box w b 97 #[.slice A n c, .int .i64 k, .int .i64 sd] ∧ k ≤ K ∧ sd < 2147483648 ∧ zs.length = n ∧ ByB w b A zs
theorem Src.btw {w w' : World} {b l h' : Nat} {A : Option Addr} {n c : Nat} {zs : List Nat} {K : Nat} (h : Src w b A n c zs K) (hb : Btw l h' w w') (ho : b < l) : Src w' b A n c zs K := by
  obtain ⟨k, sd, q1, q2, q3, q4, q5⟩ := h
  exact ⟨k, sd, q1.btw hb (.inl ho), q2, q3, q4, q5.btw hb (by omega)⟩
theorem Src.lt {w : World} {b : Nat} {A : Option Addr} {n c : Nat} {zs : List Nat} {K : Nat} (h : Src w b A n c zs K) : b < w.heap.size := by
  obtain ⟨k, sd, q1, _⟩ := h
  exact q1.lt
theorem Src.mono {w : World} {b : Nat} {A : Option Addr} {n c : Nat} {zs : List Nat} {K K' : Nat} (h : Src w b A n c zs K) (hk : K ≤ K') : Src w b A n c zs K' := by
  obtain ⟨k, sd, q1, q2, q3⟩ := h
  exact ⟨k, sd, q1, by omega, q3⟩

/-- After 'at++'. -/
theorem src_at {w : World} {b : Nat} {A : Option Addr} {n c : Nat} {k sd : Nat} (X : Box w b 97 #[.slice A n c, .int .i64 k, .int .i64 sd]) :
    Box (w.setCell ⟨b, 1, none⟩ (.int .i64 ((k : Int) + 1))) b 97 #[.slice A n c, .int .i64 ((k + 1 : Nat) : Int), .int .i64 sd] := X.set 1 (.int .i64 ((k : Int) + 1))
theorem src_seed {w : World} {b : Nat} {A : Option Addr} {n c : Nat} {k sd : Nat} (X : Box w b 97 #[.slice A n c, .int .i64 k, .int .i64 sd]) (s2 : Nat) :
    Box (w.setCell ⟨b, 2, none⟩ (.int .i64 (s2 : Int))) b 97 #[.slice A n c, .int .i64 k, .int .i64 s2] := X.set 2 (.int .i64 (s2 : Int))

/-- The source at b, exactly: its bytes, how many are drawn, the seed. -/
def SrcX (w : World) (b : Nat) (A : Option Addr) (n c : Nat) (zs : List Nat) (k sd : Nat) : Prop :=
  Box w b 97 #[.slice A n c, .int .i64 k, .int .i64 sd] ∧ sd < 2147483648 ∧ zs.length = n ∧ ByB w b A zs
/-- What byte draws: the byte, the count, the seed. -/
def byteV (zs : List Nat) (k sd : Nat) : Nat × Nat × Nat :=
  if k < zs.length then (zs.getD k 0, k + 1, (sd * 31 + zs.getD k 0 + 7) % 2147483648) else if 3000 < k + 1 then (0, k + 1, sd) else ((sd * 1103515245 + 12345) % 2147483648 / 65536 % 256, k + 1, (sd * 1103515245 + 12345) % 2147483648)
theorem byteV_at (zs : List Nat) (k sd : Nat) : (byteV zs k sd).2.1 = k + 1 := by
  unfold byteV; split
  · rfl
  · split <;> rfl
theorem SrcX.src {w : World} {b : Nat} {A : Option Addr} {n c : Nat} {zs : List Nat} {k sd : Nat} (h : SrcX w b A n c zs k sd) {K : Nat} (hk : k ≤ K) : Src w b A n c zs K := ⟨k, sd, h.1, hk, h.2.1, h.2.2.1, h.2.2.2⟩
theorem Src.exact {w : World} {b : Nat} {A : Option Addr} {n c : Nat} {zs : List Nat} {K : Nat} (h : Src w b A n c zs K) : ∃ k sd, k ≤ K ∧ SrcX w b A n c zs k sd := by
  obtain ⟨k, sd, q1, q2, q3, q4, q5⟩ := h
  exact ⟨k, sd, q2, q1, q3, q4, q5⟩
theorem SrcX.byteV_lt {w : World} {b : Nat} {A : Option Addr} {n c : Nat} {zs : List Nat} {k sd : Nat} (h : SrcX w b A n c zs k sd) : (byteV zs k sd).1 < 256 := by
  unfold byteV; split
  · rename_i hk; obtain ⟨_, _, _, _, _, hv⟩ := h.2.2.2 k hk; exact hv
  · split
    · exact (by omega : (0 : Nat) < 256)
    · exact Nat.mod_lt _ (by omega)

set_option maxRecDepth 100000 in
set_option maxHeartbeats 4000000 in
theorem srcByteX (b : Nat) (A : Option Addr) (n c : Nat) (zs : List Nat) (k sd : Nat) (w : World) (hk9 : k ≤ 1000000000) (h : SrcX w b A n c zs k sd) :
    Calls Try.prog 92 #[.pointer (some ⟨b, 0, none⟩)] w fun e w' => e = .returned (.int .i64 ((byteV zs k sd).1 : Nat)) ∧ Hid (SrcX w' b A n c zs (byteV zs k sd).2.1 (byteV zs k sd).2.2) ∧ Btw b (b + 1) w w' := by
  obtain ⟨X, hs, hl, hz⟩ := h
  have HX := Lib.hid (src_at X)
  have HB : Hid (Btw b (b + 1) w (w.setCell ⟨b, 1, none⟩ (.int .i64 ((k : Int) + 1)))) := Lib.hid ((Btw.refl b (b + 1) w).setCell (p := ⟨b, 1, none⟩) (by show b ≤ b; omega) (by show b < b + 1; omega) _)
  have HZ := Lib.hid (hz.btw HB.out (Nat.le_refl _))
  have HL := Lib.hid hl
  have f1 : w.cell? ⟨b, 1, none⟩ = some (.int .i64 k) := X.cell 1 rfl
  have g1 := X.frozen 1
  clear X hz hl
  go_enter Try.func92, Try.ntmps92
  go_wp2
  generalize w.setCell ⟨b, 1, none⟩ (.int .i64 ((k : Int) + 1)) = w1 at HX HB HZ ⊢
  clear f1 g1
  have f0 : w1.cell? ⟨b, 0, none⟩ = some (.slice A n c) := HX.out.cell 0 rfl
  have f1 : w1.cell? ⟨b, 1, none⟩ = some (.int .i64 ((k : Int) + 1)) := HX.out.cell 1 rfl
  have f2 : w1.cell? ⟨b, 2, none⟩ = some (.int .i64 sd) := HX.out.cell 2 rfl
  have g2 := HX.out.frozen 2
  by_cases hlt : k < n
  · have hlt' : (k : Int) + 1 ≤ (n : Int) := by omega
    have hk0 : (0 : Int) ≤ (k : Int) := by omega
    have hki : (k : Int) < (n : Int) := by omega
    obtain ⟨bb, off, rfl, hbb, hc, hv⟩ := HZ.out k (by rw [HL.out]; exact hlt)
    have HV : Hid (byteV zs k sd = (zs.getD k 0, k + 1, (sd * 31 + zs.getD k 0 + 7) % 2147483648)) := Lib.hid (by unfold byteV; rw [if_pos (by rw [HL.out]; exact hlt)])
    generalize zs.getD k 0 = x at hc hv HV
    have hne : ¬ bb = b := by omega
    go_quiet (fail)
    go_wp2
    have HX2 := Lib.hid (HX.out.drewN nq)
    have HB2 := Lib.hid (HB.out.drewN nq)
    have HZ2 := Lib.hid (HZ.out.btw ((Btw.refl b (b + 1) w1).drewN nq) (Nat.le_refl _))
    have hc2 : (w1.drewN nq).cell? ⟨bb, off + k, none⟩ = some (.int .u8 (x : Nat)) := hc
    clear f0 f1 f2 g2 hc HX HB HZ
    generalize w1.drewN nq = w2 at HX2 HB2 HZ2 hc2 ⊢
    have f0 : w2.cell? ⟨b, 0, none⟩ = some (.slice (some ⟨bb, off, none⟩) n c) := HX2.out.cell 0 rfl
    have f1 : w2.cell? ⟨b, 1, none⟩ = some (.int .i64 ((k : Int) + 1)) := HX2.out.cell 1 rfl
    have f2 : w2.cell? ⟨b, 2, none⟩ = some (.int .i64 sd) := HX2.out.cell 2 rfl
    have g2 := HX2.out.frozen 2
    have t0 : (0 : Int) ≤ (sd : Int) := by omega
    have u1 : IntKind.i64.wrap ((sd : Int) * 31) = (sd : Int) * 31 := IntWalk.i64_in _ ⟨by omega, by omega⟩
    have u2 : IntKind.i64.wrap (k : Int) = (k : Int) := IntWalk.i64_in _ ⟨by omega, by omega⟩
    have u3 : IntKind.i64.wrap (x : Int) = (x : Int) := IntWalk.i64_in _ ⟨by omega, by omega⟩
    have u4 : IntKind.i64.wrap ((sd : Int) * 31 + (x : Int)) = (sd : Int) * 31 + (x : Int) := IntWalk.i64_in _ ⟨by omega, by omega⟩
    have u5 : IntKind.i64.wrap ((sd : Int) * 31 + (x : Int) + 7) = (sd : Int) * 31 + (x : Int) + 7 := IntWalk.i64_in _ ⟨by omega, by omega⟩
    go_still_tail 21, (by kernel_rfl)
    change wpList _ _ _ _ _ w2.drew
    go_wp2
    clear u1 u2 u3 u4 u5
    have e1 : ((sd : Int) * 31 + (x : Int) + 7) % 2147483648 = (((sd * 31 + x + 7) % 2147483648 : Nat) : Int) := by omega
    have e2 : (sd * 31 + x + 7) % 2147483648 < 2147483648 := Nat.mod_lt _ (by omega)
    rw [e1]
    clear e1
    generalize (sd * 31 + x + 7) % 2147483648 = s2 at e2 HV ⊢
    have kA : Btw b (b + 1) w2 ((w2.setCell ⟨b, 2, none⟩ (.int .i64 (s2 : Int))).drew) := ((Btw.refl b (b + 1) _).setCell (p := ⟨b, 2, none⟩) (by show b ≤ b; omega) (by show b < b + 1; omega) _).drew
    have HX3 := Lib.hid (src_seed HX2.out s2).drew
    have HB3 := Lib.hid (HB2.out.trans kA)
    have HZ3 := Lib.hid (HZ2.out.btw kA (Nat.le_refl _))
    have hc3 := kA.cell hc2 (.inl hbb)
    clear f0 f1 f2 g2 hc2 HX2 HB2 HZ2 kA
    generalize (w2.setCell ⟨b, 2, none⟩ (.int .i64 (s2 : Int))).drew = w3 at HX3 HB3 HZ3 hc3 ⊢
    have f0 : w3.cell? ⟨b, 0, none⟩ = some (.slice (some ⟨bb, off, none⟩) n c) := HX3.out.cell 0 rfl
    have f1 : w3.cell? ⟨b, 1, none⟩ = some (.int .i64 ((k : Int) + 1)) := HX3.out.cell 1 rfl
    have u2 : IntKind.i64.wrap (k : Int) = (k : Int) := IntWalk.i64_in _ ⟨by omega, by omega⟩
    have u3 : IntKind.i64.wrap (x : Int) = (x : Int) := IntWalk.i64_in _ ⟨by omega, by omega⟩
    go_quiet (fail)
    clear u2 u3
    go_wp2
    refine bodyPost_ret (v := .int .i64 (x : Int)) (by simp [results, Try.results92, go_sem]) rfl ?_
    rw [HV.out]
    exact ⟨rfl, Lib.hid ⟨HX3.out.drewN _, e2, HL.out, HZ3.out.btw ((Btw.refl b (b + 1) w3).drewN _) (Nat.le_refl _)⟩, HB3.out.drewN _⟩
  · have hlt' : ¬ (k : Int) + 1 ≤ (n : Int) := by omega
    by_cases h3 : 3000 < (k : Int) + 1
    · have HV : Hid (byteV zs k sd = (0, k + 1, sd)) := Lib.hid (by unfold byteV; rw [if_neg (by rw [HL.out]; exact hlt), if_pos (by omega)])
      go_quiet (fail)
      go_wp2
      refine bodyPost_ret (v := .int .i64 ((0 : Nat) : Int)) (by simp [results, Try.results92, go_sem]) rfl ?_
      rw [HV.out]
      exact ⟨rfl, Lib.hid ⟨HX.out.drewN nq, hs, HL.out, HZ.out.btw ((Btw.refl b (b + 1) w1).drewN nq) (Nat.le_refl _)⟩, HB.out.drewN nq⟩
    · have HV : Hid (byteV zs k sd = ((sd * 1103515245 + 12345) % 2147483648 / 65536 % 256, k + 1, (sd * 1103515245 + 12345) % 2147483648)) := Lib.hid (by unfold byteV; rw [if_neg (by rw [HL.out]; exact hlt), if_neg (by omega)])
      go_quiet (fail)
      go_wp2
      have e1 : ((sd : Int) * 1103515245 + 12345) % 2147483648 = (((sd * 1103515245 + 12345) % 2147483648 : Nat) : Int) := by omega
      have e2 : (sd * 1103515245 + 12345) % 2147483648 < 2147483648 := Nat.mod_lt _ (by omega)
      rw [e1]
      generalize (sd * 1103515245 + 12345) % 2147483648 = s2 at e2 HV ⊢
      have e3 : (s2 : Int) / 65536 % 256 = ((s2 / 65536 % 256 : Nat) : Int) := by omega
      rw [e3]
      have kA : Btw b (b + 1) (w1.drewN nq) ((w1.drewN nq).setCell ⟨b, 2, none⟩ (.int .i64 (s2 : Int))) := (Btw.refl b (b + 1) _).setCell (p := ⟨b, 2, none⟩) (by show b ≤ b; omega) (by show b < b + 1; omega) _
      have kB := ((Btw.refl b (b + 1) w1).drewN nq).trans kA
      refine bodyPost_ret (v := .int .i64 ((s2 / 65536 % 256 : Nat) : Int)) (by simp [results, Try.results92, go_sem]) rfl ?_
      rw [HV.out]
      exact ⟨rfl, Lib.hid ⟨src_seed (HX.out.drewN nq) s2, e2, HL.out, HZ.out.btw kB (Nat.le_refl _)⟩, HB.out.trans kB⟩

set_option maxRecDepth 100000 in
theorem srcByte (b : Nat) (A : Option Addr) (n c : Nat) (zs : List Nat) (K : Nat) (w : World) (hK : K ≤ 1000000000) (h : Src w b A n c zs K) :
    Calls Try.prog 92 #[.pointer (some ⟨b, 0, none⟩)] w fun e w' => ∃ v : Nat, e = .returned (.int .i64 v) ∧ v < 256 ∧ Hid (Src w' b A n c zs (K + 1)) ∧ Btw b (b + 1) w w' := by
  obtain ⟨k, sd, hk, hx⟩ := h.exact
  refine (srcByteX b A n c zs k sd w (by omega) hx).mono ?_
  rintro e w' ⟨rfl, h2, h3⟩
  exact ⟨_, rfl, hx.byteV_lt, Lib.hid (h2.out.src (by rw [byteV_at]; omega)), h3⟩
end Go.Proofs.Ytagdclbpgkilgaa
