/- Texts of this claim, one behind the other: Fates, DrawFates, Free, NumWalk, RootSpec, ReadRoot. -/
import Derived.Test.YtcchhbkbnbphhaaRootOk
import Derived.IntWalk
import Derived.Deep.QuietTactic
import Derived.BigQuiet
import Derived.Deep.RegionLaw
import Derived.Test.YtcchhbkbnbphhaaM5
/- The model's source of draws: fates. -/
namespace Go.Proofs.Ytcchhbkbnbphhaa
open Go.RowKit

theorem intL_of_owns {w : World} {base n : Nat} {e : TypeId} {g cap : Nat} {xs : List Int} (hl : xs.length = n) (h : w.ownsRow base e 1 (.slice (some ⟨g, 0, none⟩) n cap) n (xs.map (Value.int .i64))) : IntL w (some ⟨g, 0, none⟩) xs := fun i hi =>
  ⟨g, 0, rfl, owns_cells h i (by omega)⟩

def fatesN (zs : List Nat) : Nat → Nat → Nat → List Int
  | 0, _, _ => []
  | i + 1, k, sd => (((byteV zs k sd).1 % 3 : Nat) : Int) :: fatesN zs i (byteV zs k sd).2.1 (byteV zs k sd).2.2
def fatesX (zs : List Nat) (k sd : Nat) : List Int := fatesN zs ((byteV zs k sd).1 % 4) (byteV zs k sd).2.1 (byteV zs k sd).2.2
theorem fatesN_len (zs : List Nat) : ∀ i k sd, (fatesN zs i k sd).length = i
  | 0, _, _ => rfl
  | i + 1, k, sd => by rw [fatesN, List.length_cons, fatesN_len]
theorem fatesN_in (zs : List Nat) : ∀ i k sd, ∀ x ∈ fatesN zs i k sd, 0 ≤ x ∧ x ≤ 2
  | 0, _, _, x, h => by cases h
  | i + 1, k, sd, x, h => by
    rw [fatesN] at h
    rcases List.mem_cons.1 h with rfl | h
    · have := Nat.mod_lt (byteV zs k sd).1 (show 0 < 3 by omega); omega
    · exact fatesN_in zs i _ _ x h
theorem fatesX_len (zs : List Nat) (k sd : Nat) : (fatesX zs k sd).length ≤ 3 := by
  unfold fatesX; rw [fatesN_len]; have := Nat.mod_lt (byteV zs k sd).1 (show 0 < 4 by omega); omega
theorem fatesX_in (zs : List Nat) (k sd : Nat) : ∀ x ∈ fatesX zs k sd, 0 ≤ x ∧ x ≤ 2 := fatesN_in zs _ _ _

def GivesFates (xs : List Int) (R : World → Prop) (e : Ending) (w' : World) : Prop :=
  ∃ (F : Option Addr) (nf cf : Nat), e = .returned (.slice F nf cf) ∧ Hid (xs.length = nf) ∧ Hid (IntL w' F xs) ∧ Hid (R w')

set_option maxRecDepth 100000 in
set_option maxHeartbeats 4000000 in
theorem srcFates (b : Nat) (A : Option Addr) (n c : Nat) (zs : List Nat) (k0 s0 : Nat) (w : World) (hK : k0 ≤ 1000000) (h : SrcX w b A n c zs k0 s0) :
    Calls Try.prog 40 #[.pointer (some ⟨b, 0, none⟩)] w (GivesFates (fatesX zs k0 s0) (fun w' => Btw b (b + 1) w w')) := by
  have hlt : b < w.heap.size := h.1.lt
  obtain ⟨T, hT0⟩ : ∃ T, T = fatesX zs k0 s0 := ⟨_, rfl⟩
  rw [← hT0]
  have HT0 := Lib.hid hT0
  clear hT0
  obtain ⟨i0, hi0, hz0, hz1, hz2⟩ := infoIx
  have HI := Lib.hid (And.intro hi0 (And.intro hz0 (And.intro hz1 hz2)))
  clear hi0 hz0 hz1 hz2
  have hb0 := alloc_below w (.cells #[] 3)
  have HS0 := Lib.hid (h.below hb0 hlt)
  have HB0 : Hid (Btw b (b + 1) w (w.alloc (.cells #[] 3))) := Lib.hid ((Btw.refl b (b + 1) w).alloc _)
  have HO0 := Lib.hid (owns_empty (base := w.heap.size) (Nat.le_refl _) (Box.new w 3 #[]))
  clear h hb0
  have HC := Lib.hid (srcNextX 4 b A n c zs k0 s0 _ (by omega) (by omega) (by omega) HS0.out)
  go_enter Try.func40, Try.ntmps40
  go_wp2_with fail
  refine HC.out.mono ?_
  rintro e w0 ⟨rfl, S0, hb0⟩
  have HT : Hid (T = fatesN zs ((byteV zs k0 s0).1 % 4) (byteV zs k0 s0).2.1 (byteV zs k0 s0).2.2) := Lib.hid HT0.out
  clear HT0
  have hv0 : (byteV zs k0 s0).1 % 4 < 4 := Nat.mod_lt _ (by omega)
  have hk1 : (byteV zs k0 s0).2.1 = k0 + 1 := byteV_at _ _ _
  generalize (byteV zs k0 s0).1 % 4 = v0 at HT hv0 ⊢
  generalize (byteV zs k0 s0).2.1 = k1 at HT S0 hk1
  generalize (byteV zs k0 s0).2.2 = s1 at HT S0
  have HB0' := Lib.hid (HB0.out.trans hb0)
  have HO0' := Lib.hid (owns_keep HO0.out (fun j h1 h2 => hb0.block j h2 (.inr (by omega))))
  clear HC HS0 HB0 HO0 hb0
  go_wp2
  go_loopw [3, 4] (fun o q wr => ∃ (i k g cap : Nat) (xs : List Int), i + k ≤ 3 ∧ o = .slice (some ⟨g, 0, none⟩) k cap ∧ q = .int .i64 i ∧ Hid (xs.length = k) ∧ Hid (wr.ownsRow w.heap.size 3 1 (.slice (some ⟨g, 0, none⟩) k cap) k (xs.map (Value.int .i64))) ∧ Hid (∃ kk ss, kk ≤ 1000000 + 1 + k ∧ SrcX wr b A n c zs kk ss ∧ T = xs ++ fatesN zs i kk ss) ∧ Btw b (b + 1) w wr) (fun _ q _ => (intOf q).toNat)
  case atStart => exact ⟨v0, 0, _, _, [], by omega, rfl, rfl, Lib.hid rfl, HO0', Lib.hid ⟨k1, s1, by omega, S0.out, by rw [HT.out]; rfl⟩, HB0'.out⟩
  case round =>
    obtain ⟨i, k, g, cap, xs, hk, rfl, rfl, HL, HO, HS, hbw⟩ := hrel
    by_cases hkn : 0 < i
    · have hi : (0 : Int) < (i : Int) := by omega
      obtain ⟨kk, sd, hkk, hx, hT⟩ := HS.out
      have HC := Lib.hid (srcNextX 3 b A n c zs kk sd wr (by omega) (by omega) (by omega) hx)
      obtain ⟨j, rfl⟩ : ∃ j, i = j + 1 := ⟨i - 1, by omega⟩
      have HT2 : Hid (T = xs ++ (((byteV zs kk sd).1 % 3 : Nat) : Int) :: fatesN zs j (byteV zs kk sd).2.1 (byteV zs kk sd).2.2) := Lib.hid (by rw [hT, fatesN])
      have hk2 : (byteV zs kk sd).2.1 = kk + 1 := byteV_at _ _ _
      clear hx hT
      go_wp2_with fail
      refine HC.out.mono ?_
      rintro e w1 ⟨rfl, S1, hb1⟩
      generalize (byteV zs kk sd).1 % 3 = v at HT2 ⊢
      generalize (byteV zs kk sd).2.1 = k2 at HT2 S1 hk2
      generalize (byteV zs kk sd).2.2 = s2 at HT2 S1
      clear HC HS
      have HO1 := Lib.hid (owns_keep HO.out (fun j h1 h2 => hb1.block j h2 (.inr (by omega))))
      have HB1 := Lib.hid (hbw.trans hb1)
      have k2 := Lib.hid (alloc_below w1 (.cells #[.int .i64 (v : Int)] 3))
      have HOw := Lib.hid (owns_keep HO1.out (fun j _ h2 => k2.out.block j h2))
      have HNw : Hid (∀ j u, [Value.int .i64 (v : Int)][j]? = some u → (w1.alloc (.cells #[.int .i64 (v : Int)] 3)).cell? ((⟨w1.heap.size, 0, none⟩ : Addr).add j) = some u) := Lib.hid (fun j u hj => by
        have hB := Box.new w1 3 #[.int .i64 (v : Int)]
        match j, hj with
        | 0, hj => simp at hj; subst hj; exact hB.cell 0 rfl)
      have hw1 : w.heap.size ≤ w1.heap.size := HB1.out.size
      go_wp2_with (at_builtin; refine wpList_append_own _ rfl (.tmp 12) (.tmp 15) 29 rfl w.heap.size 3 i0 (.int .i64 0) 1 8 Try.underlying29 HI.out.1 HI.out.2.1 HI.out.2.2.1 HI.out.2.2.2 rfl (by decide) _ k (xs.map (Value.int .i64)) rfl ?hown ⟨w1.heap.size, 0, none⟩ 1 1 [.int .i64 (v : Int)] rfl rfl ?hnews ?hone ?h63 ?hby ?hbase ?_)
      case hown => exact HOw.out
      case hnews => exact HNw.out
      case hone => intro u hu; simp at hu; subst hu; rfl
      case h63 => unfold maxLen; omega
      case hby => omega
      case hbase => simp; omega
      intro v1 w4 hown hgr hniff
      rw [map_snoc (Value.int .i64)] at hown
      obtain ⟨gg, cap', hv1, p1, p2⟩ := owns_form hown (by omega)
      subst hv1
      have hge := ownBlock_ge1 HOw.out
      have HS4 := Lib.hid ((S1.out.below (k2.out.mono hw1) hlt).below (below_of_grown (B := w.heap.size) hgr hge (by simp; omega)) hlt)
      have HB4 := Lib.hid (btw_grown (HB1.out.alloc (.cells #[.int .i64 (v : Int)] 3)) hgr hge)
      have HO4 := Lib.hid hown
      clear hown hgr hniff hge k2 HOw HNw HO1 HB1 S1 hb1 HO
      go_wp2
      go_roundw
      case rel => exact ⟨j, k + 1, gg, cap', xs ++ [(v : Int)], by omega, rfl, by go_num, Lib.hid (by rw [List.length_append, HL.out]; rfl), HO4, Lib.hid ⟨k2, s2, by omega, HS4.out, by rw [HT2.out]; simp⟩, HB4.out⟩
      case measure => (simp [intOf] <;> omega)
    · have hi : ¬ (0 : Int) < (i : Int) := by omega
      go_wp2
      refine bodyPost_ret (v := .slice (some ⟨g, 0, none⟩) k cap) (by simp [results, Try.results40, go_sem]) rfl ?_
      obtain ⟨kk, sd, _, _, hT⟩ := HS.out
      obtain rfl : i = 0 := by omega
      have hTx : T = xs := by rw [hT, fatesN, List.append_nil]
      rw [hTx]
      exact ⟨_, _, _, rfl, HL, Lib.hid (intL_of_owns HL.out HO.out), Lib.hid hbw⟩
end Go.Proofs.Ytcchhbkbnbphhaa

/- The source's fates, as a row of the call's own; the source goes on. Written by gen_drawfates.py. -/
namespace Go.Proofs.Ytcchhbkbnbphhaa
open Go.RowKit

def GivesFatesS (b : Nat) (A : Option Addr) (n c : Nat) (zs : List Nat) (K : Nat) (w : World) (e : Ending) (w' : World) : Prop :=
  ∃ (F : Option Addr) (nf cf : Nat) (xs : List Int), e = .returned (.slice F nf cf) ∧ Hid (xs.length = nf) ∧ nf ≤ 3 ∧ okF xs = true ∧ Hid (OwnI w' w.heap.size w'.heap.size F xs) ∧ Hid (Src w' b A n c zs (K + 4)) ∧ Btw b (b + 1) w w'

set_option maxRecDepth 100000 in
set_option maxHeartbeats 4000000 in
theorem srcFatesS (b : Nat) (A : Option Addr) (n c : Nat) (zs : List Nat) (k0 s0 K : Nat) (w : World) (hK : k0 ≤ K) (hKK : K ≤ 1000000) (h : SrcX w b A n c zs k0 s0) :
    Calls Try.prog 40 #[.pointer (some ⟨b, 0, none⟩)] w (GivesFatesS b A n c zs K w) := by
  have hlt : b < w.heap.size := h.1.lt
  obtain ⟨i0, hi0, hz0, hz1, hz2⟩ := infoIx
  have HI := Lib.hid (And.intro hi0 (And.intro hz0 (And.intro hz1 hz2)))
  clear hi0 hz0 hz1 hz2
  have hb0 := alloc_below w (.cells #[] 3)
  have HS0 := Lib.hid (h.below hb0 hlt)
  have HB0 : Hid (Btw b (b + 1) w (w.alloc (.cells #[] 3))) := Lib.hid ((Btw.refl b (b + 1) w).alloc _)
  have HO0 := Lib.hid (owns_empty (base := w.heap.size) (Nat.le_refl _) (Box.new w 3 #[]))
  clear h hb0
  have HC := Lib.hid (srcNextX 4 b A n c zs k0 s0 _ (by omega) (by omega) (by omega) HS0.out)
  go_enter Try.func40, Try.ntmps40
  go_wp2_with fail
  refine HC.out.mono ?_
  rintro e w0 ⟨rfl, S0, hb0⟩
  have hv0 : (byteV zs k0 s0).1 % 4 < 4 := Nat.mod_lt _ (by omega)
  have hk1 : (byteV zs k0 s0).2.1 = k0 + 1 := byteV_at _ _ _
  generalize (byteV zs k0 s0).1 % 4 = v0 at hv0 ⊢
  generalize (byteV zs k0 s0).2.1 = k1 at S0 hk1
  generalize (byteV zs k0 s0).2.2 = s1 at S0
  have HB0' := Lib.hid (HB0.out.trans hb0)
  have HO0' := Lib.hid (owns_keep HO0.out (fun j h1 h2 => hb0.block j h2 (.inr (by omega))))
  clear HC HS0 HB0 HO0 hb0
  go_wp2
  go_loopw [3, 4] (fun o q wr => ∃ (i k g cap : Nat) (xs : List Int), i + k ≤ 3 ∧ o = .slice (some ⟨g, 0, none⟩) k cap ∧ q = .int .i64 i ∧ Hid (xs.length = k) ∧ Hid (wr.ownsRow w.heap.size 3 1 (.slice (some ⟨g, 0, none⟩) k cap) k (xs.map (Value.int .i64))) ∧ Hid ((∃ kk ss, kk ≤ K + 1 + k ∧ SrcX wr b A n c zs kk ss) ∧ okF xs = true) ∧ Btw b (b + 1) w wr) (fun _ q _ => (intOf q).toNat)
  case atStart => exact ⟨v0, 0, _, _, [], by omega, rfl, rfl, Lib.hid rfl, HO0', Lib.hid ⟨⟨k1, s1, by omega, S0.out⟩, rfl⟩, HB0'.out⟩
  case round =>
    obtain ⟨i, k, g, cap, xs, hk, rfl, rfl, HL, HO, HS, hbw⟩ := hrel
    by_cases hkn : 0 < i
    · have hi : (0 : Int) < (i : Int) := by omega
      obtain ⟨⟨kk, sd, hkk, hx⟩, hT⟩ := HS.out
      have HC := Lib.hid (srcNextX 3 b A n c zs kk sd wr (by omega) (by omega) (by omega) hx)
      obtain ⟨j, rfl⟩ : ∃ j, i = j + 1 := ⟨i - 1, by omega⟩
      have HT2 := Lib.hid hT
      have hv3 : (byteV zs kk sd).1 % 3 < 3 := Nat.mod_lt _ (by omega)
      have hk2 : (byteV zs kk sd).2.1 = kk + 1 := byteV_at _ _ _
      clear hx hT
      go_wp2_with fail
      refine HC.out.mono ?_
      rintro e w1 ⟨rfl, S1, hb1⟩
      generalize (byteV zs kk sd).1 % 3 = v at hv3 ⊢
      generalize (byteV zs kk sd).2.1 = k2 at S1 hk2
      generalize (byteV zs kk sd).2.2 = s2 at S1
      clear HC HS
      have HO1 := Lib.hid (owns_keep HO.out (fun j h1 h2 => hb1.block j h2 (.inr (by omega))))
      have HB1 := Lib.hid (hbw.trans hb1)
      have k2 := Lib.hid (alloc_below w1 (.cells #[.int .i64 (v : Int)] 3))
      have HOw := Lib.hid (owns_keep HO1.out (fun j _ h2 => k2.out.block j h2))
      have HNw : Hid (∀ j u, [Value.int .i64 (v : Int)][j]? = some u → (w1.alloc (.cells #[.int .i64 (v : Int)] 3)).cell? ((⟨w1.heap.size, 0, none⟩ : Addr).add j) = some u) := Lib.hid (fun j u hj => by
        have hB := Box.new w1 3 #[.int .i64 (v : Int)]
        match j, hj with
        | 0, hj => simp at hj; subst hj; exact hB.cell 0 rfl)
      have hw1 : w.heap.size ≤ w1.heap.size := HB1.out.size
      go_wp2_with (at_builtin; refine wpList_append_own _ rfl (.tmp 12) (.tmp 15) 29 rfl w.heap.size 3 i0 (.int .i64 0) 1 8 Try.underlying29 HI.out.1 HI.out.2.1 HI.out.2.2.1 HI.out.2.2.2 rfl (by decide) _ k (xs.map (Value.int .i64)) rfl ?hown ⟨w1.heap.size, 0, none⟩ 1 1 [.int .i64 (v : Int)] rfl rfl ?hnews ?hone ?h63 ?hby ?hbase ?_)
      case hown => exact HOw.out
      case hnews => exact HNw.out
      case hone => intro u hu; simp at hu; subst hu; rfl
      case h63 => unfold maxLen; omega
      case hby => omega
      case hbase => simp; omega
      intro v1 w4 hown hgr hniff
      rw [map_snoc (Value.int .i64)] at hown
      obtain ⟨gg, cap', hv1, p1, p2⟩ := owns_form hown (by omega)
      subst hv1
      have hge := ownBlock_ge1 HOw.out
      have HS4 := Lib.hid ((S1.out.below (k2.out.mono hw1) hlt).below (below_of_grown (B := w.heap.size) hgr hge (by simp; omega)) hlt)
      have HB4 := Lib.hid (btw_grown (HB1.out.alloc (.cells #[.int .i64 (v : Int)] 3)) hgr hge)
      have HO4 := Lib.hid hown
      clear hown hgr hniff hge k2 HOw HNw HO1 HB1 S1 hb1 HO
      go_wp2
      go_roundw
      case rel => exact ⟨j, k + 1, gg, cap', xs ++ [(v : Int)], by omega, rfl, by go_num, Lib.hid (by rw [List.length_append, HL.out]; rfl), HO4, Lib.hid ⟨⟨k2, s2, by omega, HS4.out⟩, by have q := HT2.out; unfold okF fateB at q ⊢; rw [List.all_append, q]; simp; omega⟩, HB4.out⟩
      case measure => (simp [intOf] <;> omega)
    · have hi : ¬ (0 : Int) < (i : Int) := by omega
      go_wp2
      refine bodyPost_ret (v := .slice (some ⟨g, 0, none⟩) k cap) (by simp [results, Try.results40, go_sem]) rfl ?_
      obtain ⟨⟨kk, sd, hkk, hx⟩, hT⟩ := HS.out
      refine ⟨_, k, cap, xs, rfl, HL, by omega, hT, Lib.hid ?_, Lib.hid (hx.src (by omega)), hbw⟩
      rcases Nat.eq_zero_or_pos k with h0 | h0
      · exact .inl (List.eq_nil_of_length_eq_zero (by rw [HL.out]; exact h0))
      · exact ownI_fresh HO.out h0 (Nat.le_refl _)
end Go.Proofs.Ytcchhbkbnbphhaa

/- Contracts of Root.free and l02Free. -/
namespace Go.Proofs.Ytcchhbkbnbphhaa
open Go.RowKit

def frN (zs : List Int) : Nat → List Int
  | 0 => []
  | j + 1 => frN zs j ++ (if ((j + 2 : Nat) : Int) ∈ zs then [] else [((j + 2 : Nat) : Int)])
def freeL (zs : List Int) : List Int := frN zs 46
theorem frN_len (zs : List Int) : ∀ j, (frN zs j).length ≤ j
  | 0 => Nat.le_refl _
  | j + 1 => by
    have := frN_len zs j
    rw [frN, List.length_append]
    split <;> simp <;> omega
theorem frN_in (zs : List Int) (j : Nat) (h : ((j + 2 : Nat) : Int) ∈ zs) : frN zs (j + 1) = frN zs j := by rw [frN, if_pos h, List.append_nil]
theorem frN_out (zs : List Int) (j : Nat) (h : ((j + 2 : Nat) : Int) ∉ zs) : frN zs (j + 1) = frN zs j ++ [((j + 2 : Nat) : Int)] := by rw [frN, if_neg h]
theorem SetI.since {w w' : World} {b B : Nat} {ks : List Int} (h : SetI w b ks) (hb : Below B w w') (hB : b < B) : SetI w' b ks := by
  obtain ⟨es, clock, h1, h2, h3⟩ := h
  exact ⟨es, clock, (hb.block b hB).trans h1, h2, h3⟩
theorem IntL.since {w w' : World} {B : Nat} {A : Option Addr} {zs : List Int} (h : IntL w A zs) (hb : Below B w w') (hB : w.heap.size ≤ B) : IntL w' A zs := h.below (hb.mono hB)
set_option maxRecDepth 100000 in
theorem zeroBool (w : World) : (zeroValue 4).run Try.prog w = .ok (.bool false) w := by kernel_rfl

set_option maxRecDepth 100000 in
set_option maxHeartbeats 2000000 in
theorem rootFree (g : Int) (A : Option Addr) (n c : Nat) (zs : List Int) (w : World) (hl : zs.length = n) (hn : n ≤ maxLen) (h : IntL w A zs) :
    Calls Try.prog 45 #[.agg #[.int .i64 g, .slice A n c]] w (GivesInts (freeL zs) w) := by
  have hb0 := alloc_below w (.cells #[.int .i64 g, .slice A n c] 31)
  have HU := Lib.hid (usedSectors A n c zs _ hl hn (h.below hb0))
  clear hl hn h
  go_enter Try.func45, Try.ntmps45
  go_wp2_with fail
  refine HU.out.mono ?_
  rintro e w1 ⟨bm, rfl, hbm, HS, hb1⟩
  have hb := bt hb0 hb1
  have hlt1 : bm < w1.heap.size := HS.out.lt
  have hW1 : w.heap.size ≤ w1.heap.size := hb.size
  clear hb0 hb1 HU hbm
  go_wp2
  go_loopw [5, 4] (fun i v wr => ∃ (j : Nat) (A' : Option Addr) (l c' : Nat), j ≤ 46 ∧ i = .int .i64 ((j + 2 : Nat) : Int) ∧ v = .slice A' l c' ∧ Hid ((frN zs j).length = l) ∧ l ≤ 46 ∧ Below w.heap.size w wr ∧ Hid (GroI wr w1.heap.size (.slice A' l c') (frN zs j)) ∧ Hid (SetI wr bm (keysOf zs)) ∧ w1.heap.size ≤ wr.heap.size) (fun i _ _ => 48 - (intOf i).toNat)
  case atStart => exact ⟨0, none, 0, 0, by omega, rfl, rfl, Lib.hid rfl, by omega, hb, Lib.hid (rowv_nil _ _ _ _), HS, Nat.le_refl _⟩
  case round =>
    clear hb HS
    obtain ⟨j, A', l, c', hj, rfl, rfl, HLl, hl46, hbw, HG, HS, hsz⟩ := hrel
    by_cases hlt : j < 46
    · have hi : ((j + 2 : Nat) : Int) < 48 := by omega
      have hlk := run_set_look (P := Try.prog) Try.underlying99 Try.underlying3 (zeroBool wr) HS.out ((j + 2 : Nat) : Int)
      by_cases hM : ((j + 2 : Nat) : Int) ∈ zs
      · have HF := Lib.hid (frN_in zs j hM)
        rw [show decide (((j + 2 : Nat) : Int) ∈ keysOf zs) = true from decide_eq_true ((keysOf_mem zs _).2 hM)] at hlk
        clear hM
        generalize hz : j + 2 = z at hlk hi
        have HZ := Lib.hid hz
        have hz1 : z ≤ 1000 := by omega
        clear hz
        go_wp2
        go_roundw
        case rel => exact ⟨j + 1, A', l, c', by omega, by have := HZ.out; congr 1; omega, rfl, by rw [HF.out]; exact HLl, hl46, hbw, by rw [HF.out]; exact HG, HS, hsz⟩
        case measure => simp [intOf]; omega
      · have HF := Lib.hid (frN_out zs j hM)
        have HLn := Lib.hid (frN_len zs (j + 1))
        rw [show decide (((j + 2 : Nat) : Int) ∈ keysOf zs) = false from decide_eq_false (fun q => hM ((keysOf_mem zs _).1 q))] at hlk
        clear hM
        generalize hz : j + 2 = z at hlk hi HF
        have HZ := Lib.hid hz
        have hz1 : z ≤ 1000 := by omega
        have HRk : Hid (wr.ownsRow w1.heap.size 3 1 (.slice A' l c') l ((frN zs j).map (Value.int .i64))) := Lib.hid (by have := HG.out; unfold GroI at this; rwa [HLl.out] at this)
        generalize frN zs j = fl at HRk HF HLl
        clear hz HG
        have HBa : Hid (Below wr.heap.size wr (wr.alloc (.cells #[.int .i64 (z : Int)] 3))) := Lib.hid (alloc_below _ _)
        have HOw := Lib.hid (rowv_below HRk.out HBa.out)
        have HNw : Hid (∀ i u, [Value.int .i64 (z : Int)][i]? = some u → (wr.alloc (.cells #[.int .i64 (z : Int)] 3)).cell? ⟨wr.heap.size, i, none⟩ = some u) := Lib.hid (fun i u hi => by
          match i, hi with
          | 0, hi => simp at hi; subst hi; exact (Box.new wr 3 #[.int .i64 (z : Int)]).cell 0 rfl)
        go_wp2_with (at_builtin; refine wpList_app_one rfl (.tmp 17) (.tmp 19) 29 3 rfl (.int .i64 0) 1 8 elemInt Try.underlying29 w1.heap.size (.slice A' l c') l (fl.map (Value.int .i64)) rfl ?hown wr.heap.size 1 rfl [.int .i64 (z : Int)] rfl ?hnews ?hone ?h63 ?hby ?hbase ?_)
        case hown => exact HOw.out
        case hnews => exact HNw.out
        case hone => intro u hu; simp at hu; subst hu; rfl
        case h63 => unfold maxLen; omega
        case hby => omega
        case hbase => simp; omega
        intro A2 c2 w2 hR2 hc2 hg2 hb2
        have HR2 := Lib.hid hR2
        have HS2 := Lib.hid ((HS.out.below HBa.out).since hb2 hlt1)
        have hbz : Below w.heap.size w w2 := (bt hbw HBa.out).trans (hb2.mono hW1)
        have hs2 : w1.heap.size ≤ w2.heap.size := Nat.le_trans (Nat.le_trans hsz HBa.out.size) hb2.size
        clear hR2 hb2 hg2
        go_wp2
        go_roundw
        case rel =>
          refine ⟨j + 1, A2, l + 1, c2, by omega, by have := HZ.out; congr 1; omega, rfl, Lib.hid (by rw [HF.out, List.length_append, HLl.out]; rfl), ?_, hbz, Lib.hid ?_, HS2, hs2⟩
          · have := HLn.out; rw [HF.out, List.length_append, HLl.out] at this; simp at this; omega
          · unfold GroI; rw [HF.out, List.length_append, HLl.out, List.map_append]; exact HR2.out
        case measure => simp [intOf]; omega
    · obtain rfl : j = 46 := by omega
      go_wp2
      refine bodyPost_ret (v := .slice A' l c') (by simp [results, Try.results45, go_sem]) rfl ?_
      exact ⟨_, _, _, rfl, HLl, Lib.hid (HG.out.own hW1), hbw⟩
end Go.Proofs.Ytcchhbkbnbphhaa

/- Contracts of the readers of digits: isDigit, l00Digit, allDigits, numberOf, l02Fixed. -/
namespace Go.Proofs.Ytcchhbkbnbphhaa
open Go.RowKit

def digB (n : Int) : Bool := decide (48 ≤ n ∧ n ≤ 57)
set_option maxRecDepth 100000 in
theorem isDigit (n : Int) (w : World) : Calls Try.prog 93 #[.int .u8 n] w fun e w' => e = .returned (.bool (digB n)) ∧ w = w' := by
  go_enter Try.func93, Try.ntmps93
  go_wp2
  all_goals go_ret
  all_goals (refine ⟨ret_bool ?_, rfl⟩)
  all_goals (unfold digB; rw [Bool.eq_iff_iff]; simp; try omega)
set_option maxRecDepth 100000 in
theorem l00Digit (n : Int) (w : World) : Calls Try.prog 90 #[.int .u8 n] w fun e w' => e = .returned (.bool (digB n)) ∧ w = w' := by
  go_enter Try.func90, Try.ntmps90
  go_wp2
  all_goals go_ret
  all_goals (refine ⟨ret_bool ?_, rfl⟩)
  all_goals (unfold digB; rw [Bool.eq_iff_iff]; simp; try omega)

def digC (c : UInt8) : Bool := digB c.toNat
def allDig (l : List UInt8) : Bool := l.all digC
theorem allDig_step (s : ByteArray) (k : Nat) (h : k < s.size) : allDig (s.data.toList.drop k) = (digB s[k].toNat && allDig (s.data.toList.drop (k + 1))) := by
  unfold allDig
  rw [List.drop_eq_getElem_cons (by simpa using h)]; rfl
theorem allDig_end (s : ByteArray) (k : Nat) (h : s.size ≤ k) : allDig (s.data.toList.drop k) = true := by
  rw [List.drop_of_length_le (by simpa using h)]; rfl

set_option maxRecDepth 100000 in
set_option maxHeartbeats 1000000 in
theorem allDigits (s : ByteArray) (w : World) (hs : s.size ≤ maxLen) : Calls Try.prog 84 #[.string s] w fun e w' => e = .returned (.bool (allDig s.data.toList)) ∧ w = w' := by
  unfold maxLen at hs
  go_enter Try.func84, Try.ntmps84
  go_wp2
  go_loop [3] (fun i => ∃ k : Nat, k ≤ s.size ∧ i = .int .i64 k ∧ Hid (allDig s.data.toList = allDig (s.data.toList.drop k))) (fun i => s.size - (intOf i).toNat)
  case atStart => exact ⟨0, Nat.zero_le _, rfl, Lib.hid rfl⟩
  case round =>
    obtain ⟨k, hk, rfl, HT⟩ := hrel
    by_cases hlt : k < s.size
    · have HS := Lib.hid (allDig_step s k hlt)
      have HC := Lib.hid (fun W => isDigit (s[k].toNat : Int) W)
      by_cases hE : digB (s[k].toNat : Int) = true
      · have HE := Lib.hid hE
        rw [hE] at HC
        clear hE
        go_wp2_with (first | (go_at_call 93; refine (HC.out _).mono ?_; rintro e w' ⟨rfl, rfl⟩))
        go_round
        case rel => exact ⟨k + 1, by omega, by go_num, Lib.hid (by rw [HT.out, HS.out, HE.out]; rfl)⟩
        case measure => simp [intOf]; omega
      · have hE' : digB (s[k].toNat : Int) = false := by simpa using hE
        have HE := Lib.hid hE'
        rw [hE'] at HC
        clear hE hE'
        go_wp2_with (first | (go_at_call 93; refine (HC.out _).mono ?_; rintro e w' ⟨rfl, rfl⟩))
        go_ret
        exact ⟨ret_bool (by rw [HT.out, HS.out, HE.out]; rfl), rfl⟩
    · go_wp2
      go_ret
      exact ⟨ret_bool (by rw [HT.out]; exact (allDig_end s k (by omega)).symm), rfl⟩

def numOf (l : List UInt8) : Nat := l.foldl (fun n c => 10 * n + (c.toNat - 48)) 0
theorem numOf_step (s : ByteArray) (k : Nat) (h : k < s.size) : numOf (s.data.toList.take (k + 1)) = 10 * numOf (s.data.toList.take k) + (s[k].toNat - 48) := by
  unfold numOf
  rw [List.take_succ_eq_append_getElem (by simpa using h), List.foldl_append]; rfl
theorem fold_lt (l : List UInt8) (h : allDig l = true) : ∀ m, l.foldl (fun n c => 10 * n + (c.toNat - 48)) m < (m + 1) * 10 ^ l.length := by
  induction l with
  | nil => intro m; simp
  | cons a r ih =>
    intro m
    unfold allDig at h
    rw [List.all_cons, Bool.and_eq_true] at h
    have ha : (a.toNat : Int) ≤ 57 := by have := h.1; unfold digC digB at this; simp at this; omega
    rw [List.foldl_cons]
    refine Nat.lt_of_lt_of_le (ih h.2 _) ?_
    rw [List.length_cons, Nat.pow_succ, Nat.mul_comm (10 ^ r.length) 10, ← Nat.mul_assoc]
    exact Nat.mul_le_mul_right _ (by omega)
theorem numOf_lt (l : List UInt8) (h : allDig l = true) : numOf l < 10 ^ l.length := by
  have := fold_lt l h 0
  simpa [numOf] using this
theorem allDig_take (l : List UInt8) (k : Nat) (h : allDig l = true) : allDig (l.take k) = true := by
  unfold allDig at *
  rw [List.all_eq_true] at *
  exact fun x hx => h x (List.mem_of_mem_take hx)
theorem allDig_drop (l : List UInt8) (k : Nat) (h : allDig l = true) : allDig (l.drop k) = true := by
  unfold allDig at *
  rw [List.all_eq_true] at *
  exact fun x hx => h x (List.mem_of_mem_drop hx)
theorem allDig_at (s : ByteArray) (k : Nat) (h : k < s.size) (ha : allDig s.data.toList = true) : 48 ≤ s[k].toNat ∧ s[k].toNat ≤ 57 := by
  unfold allDig at ha
  rw [List.all_eq_true] at ha
  have := ha s[k] (by exact List.getElem_mem (l := s.data.toList) (n := k) (by simpa using h))
  unfold digC digB at this
  simp at this
  omega

set_option maxRecDepth 100000 in
set_option maxHeartbeats 1000000 in
theorem numberOf (s : ByteArray) (w : World) (hs : s.size ≤ 17) (hd : allDig s.data.toList = true) : Calls Try.prog 85 #[.string s] w fun e w' => e = .returned (.int .i64 (numOf s.data.toList : Nat)) ∧ w = w' := by
  have HD := Lib.hid hd
  clear hd
  go_enter Try.func85, Try.ntmps85
  go_wp2
  go_loop [3, 4] (fun n i => ∃ k : Nat, k ≤ s.size ∧ i = .int .i64 k ∧ n = .int .i64 (numOf (s.data.toList.take k) : Nat)) (fun _ i => s.size - (intOf i).toNat)
  case atStart => exact ⟨0, Nat.zero_le _, rfl, rfl⟩
  case round =>
    obtain ⟨k, hk, rfl, rfl⟩ := hrel
    have hb : numOf (s.data.toList.take k) < 100000000000000000 := by
      refine Nat.lt_of_lt_of_le (numOf_lt _ (allDig_take _ k HD.out)) ?_
      rw [List.length_take]
      exact Nat.le_trans (Nat.pow_le_pow_right (by omega) (show min k s.data.toList.length ≤ 17 by omega)) (by decide)
    by_cases hlt : k < s.size
    · have HS := Lib.hid (numOf_step s k hlt)
      have hc := allDig_at s k hlt HD.out
      generalize numOf (s.data.toList.take k) = m at HS hb
      obtain ⟨hc1, hc2⟩ := hc
      have hw : IntKind.u8.wrap ((s[k].toNat : Int) - 48) = (s[k].toNat : Int) - 48 := IntWalk.u8_in _ (by omega)
      go_wp2
      go_round
      case rel => exact ⟨k + 1, by omega, by go_num, by rw [HS.out]; congr 1; omega⟩
      case measure => simp [intOf]; omega
    · have HF : Hid (numOf (s.data.toList.take k) = numOf s.data.toList) := Lib.hid (by rw [List.take_of_length_le (by simpa using by omega)])
      generalize numOf (s.data.toList.take k) = m at HF hb
      go_wp2
      go_ret
      exact ⟨ret_int (by rw [HF.out]), rfl⟩

set_option maxRecDepth 100000 in
set_option maxHeartbeats 1000000 in
theorem l02Fixed (s : ByteArray) (w : World) (hs : s.size ≤ 17) (hd : allDig s.data.toList = true) : Calls Try.prog 91 #[.string s] w fun e w' => e = .returned (.int .i64 (numOf s.data.toList : Nat)) ∧ w = w' := by
  have HD := Lib.hid hd
  clear hd
  go_enter Try.func91, Try.ntmps91
  go_wp2
  go_loop [3, 4] (fun n i => ∃ k : Nat, k ≤ s.size ∧ i = .int .i64 k ∧ n = .int .i64 (numOf (s.data.toList.take k) : Nat)) (fun _ i => s.size - (intOf i).toNat)
  case atStart => exact ⟨0, Nat.zero_le _, rfl, rfl⟩
  case round =>
    obtain ⟨k, hk, rfl, rfl⟩ := hrel
    have hb : numOf (s.data.toList.take k) < 100000000000000000 := by
      refine Nat.lt_of_lt_of_le (numOf_lt _ (allDig_take _ k HD.out)) ?_
      rw [List.length_take]
      exact Nat.le_trans (Nat.pow_le_pow_right (by omega) (show min k s.data.toList.length ≤ 17 by omega)) (by decide)
    by_cases hlt : k < s.size
    · have HS := Lib.hid (numOf_step s k hlt)
      have hc := allDig_at s k hlt HD.out
      generalize numOf (s.data.toList.take k) = m at HS hb
      obtain ⟨hc1, hc2⟩ := hc
      have hw : IntKind.u8.wrap ((s[k].toNat : Int) - 48) = (s[k].toNat : Int) - 48 := IntWalk.u8_in _ (by omega)
      go_wp2
      go_round
      case rel => exact ⟨k + 1, by omega, by go_num, by rw [HS.out]; congr 1; omega⟩
      case measure => simp [intOf]; omega
    · have HF : Hid (numOf (s.data.toList.take k) = numOf s.data.toList) := Lib.hid (by rw [List.take_of_length_le (by simpa using by omega)])
      generalize numOf (s.data.toList.take k) = m at HF hb
      go_wp2
      go_ret
      exact ⟨ret_int (by rw [HF.out]), rfl⟩

/- What a root's text says. -/
def genT (l : List UInt8) : Int := (numOf (l.take 6) : Nat)
def secT (l : List UInt8) (k : Nat) : Int := (numOf ((l.drop (6 + 2 * k)).take 2) : Nat)
def tabT (l : List UInt8) (k : Nat) : List Int := (List.range k).map (secT l)
theorem tabT_len (l : List UInt8) (k : Nat) : (tabT l k).length = k := by simp [tabT]
theorem tabT_step (l : List UInt8) (k : Nat) : tabT l (k + 1) = tabT l k ++ [secT l k] := by simp [tabT, List.range_succ]
def rdB (l : List UInt8) : Bool := decide (l.length = 46) && (allDig l && (decide (l.take 6 = l.drop 40) && rootB (genT l) (tabT l 17)))
def rdG (t : ByteArray) : Int := if 65536 < t.size then 0 else if rdB t.data.toList = true then genT t.data.toList else 0
def rdZ (t : ByteArray) : List Int := if 65536 < t.size then [] else if rdB t.data.toList = true then tabT t.data.toList 17 else []
def rdC (t : ByteArray) : Int := if 65536 < t.size then 2 else if rdB t.data.toList = true then 0 else 9
end Go.Proofs.Ytcchhbkbnbphhaa

/- The contract of spec.RootOK. -/
namespace Go.Proofs.Ytcchhbkbnbphhaa
open Go.RowKit

theorem quiet_same {P : Program} {f : FuncId} {args : Array Value} {w : World} {n : Nat} {v : Value}
    (h : Calls P f args (w.drewN n) fun e w' => e = .returned v ∧ w.drewN n = w') : Calls P f args (w.drewN n) fun e w'' => e = .returned v ∧ ∃ m, w'' = w.drewN m :=
  h.mono fun _ _ ⟨he, hm⟩ => ⟨he, n, hm.symm⟩

set_option maxRecDepth 100000 in
set_option maxHeartbeats 2000000 in
theorem specRootOK (g : Int) (A : Option Addr) (n c : Nat) (zs : List Int) (w : World) (hl : zs.length = n) (_hn : n ≤ maxLen) (hcap : n ≤ c) (h : IntL w A zs) :
    Calls Try.prog 92 #[.agg #[.int .i64 g, .slice A n c]] w fun e w' => e = .returned (.bool (rootB g zs)) ∧ Below w.heap.size w w' := by
  have hb0 := alloc_below w (.cells #[.int .i64 g, .slice A n c] 31)
  by_cases h1 : inB 1 999999 g = true
  · have hg : 1 ≤ g ∧ g ≤ 999999 := by unfold inB at h1; simpa using h1
    have HI := Lib.hid h1
    by_cases h2 : n = 17
    · have HV := Lib.hid (rootB_yes (zs := zs) hg (hl.trans h2))
      have HL := Lib.hid hl
      have H := Lib.hid (h.below hb0)
      have X := Box.new w 31 #[.int .i64 g, .slice A n c]
      have q3 : ((n : Int) != 17) = false := by rw [h2]; rfl
      have q4 : n ≤ 17 := by omega
      have q5 : (n : Int) ≤ (c : Int) := by omega
      clear h hl h1 hg h2
      go_enter Try.func92, Try.ntmps92
      go_wp2_with fail
      refine (l01InG _ _ _ _).mono ?_
      rintro e w' ⟨rfl, rfl⟩
      rw [HI.out]
      go_wp2
      have F1 := Lib.hid (X.cell 1 rfl)
      generalize w.alloc (.cells #[.int .i64 g, .slice A n c] 31) = wa at hb0 H F1 ⊢
      go_loopw [3] (fun i wr => ∃ k : Nat, k ≤ n ∧ i = .int .i64 k ∧ Hid (goodK zs k = true) ∧ Below w.heap.size w wr ∧ Hid (IntL wr A zs) ∧ Hid (wr.cell? ⟨w.heap.size, 1, none⟩ = some (.slice A n c))) (fun i _ => n - (intOf i).toNat)
      case atStart => exact ⟨0, Nat.zero_le _, rfl, Lib.hid rfl, hb0, H, F1⟩
      case round =>
        clear F1 H hb0
        obtain ⟨k, hk, rfl, HT, hb0, H, F1⟩ := hrel
        have f1 := F1.out
        by_cases hlt : k < n
        · obtain ⟨b, off, rfl, hc⟩ := H.out k (by rw [HL.out]; exact hlt)
          have HS := Lib.hid (goodK_step zs k (by rw [HL.out]; exact hlt))
          have HIn := Lib.hid (fun W (hW : ∃ nq, W = wr.drewN nq) => l02In (some ⟨b, off, none⟩) k c (zs.take k) (zs.getD k 0) W (by rw [List.length_take, HL.out]; omega) (by unfold maxLen; omega) (by obtain ⟨nq, rfl⟩ := hW; exact take_reads H.out k))
          generalize zs.getD k 0 = z at hc HS HIn
          have hi : (k : Int) < (n : Int) := by omega
          have hi0 : (0 : Int) ≤ (k : Int) := by omega
          have hic : (k : Int) ≤ (c : Int) := by omega
          by_cases hE : pageB z = true
          · have HP := Lib.hid (fun W => l02Page z W)
            generalize hp : pageB z = pz at HP hE
            have HPz := Lib.hid hp
            subst hE
            clear hp
            by_cases hM : z ∈ zs.take k
            · have HM := Lib.hid hM
              generalize hd : decide (z ∈ zs.take k) = dz at HIn HS
              have HD : Hid (dz = true) := Lib.hid (by rw [← hd]; simpa using hM)
              rw [HD.out] at HIn
              clear hM hd
              go_wp2
              go_quiet (first | (go_at_call 96; exact quiet_same (HP.out _)) | (go_at_call 79; exact quiet_same (HIn.out _ ⟨_, rfl⟩)))
              go_wp2
              go_ret
              exact ⟨ret_bool (by rw [HV.out]; exact (goodK_no zs (k + 1) (by rw [HS.out, HD.out]; simp)).symm), below_drewN hb0 _⟩
            · have HM := Lib.hid hM
              generalize hd : decide (z ∈ zs.take k) = dz at HIn HS
              have HD : Hid (dz = false) := Lib.hid (by rw [← hd]; simpa using hM)
              rw [HD.out] at HIn
              clear hM hd
              go_wp2
              go_quiet (first | (go_at_call 96; exact quiet_same (HP.out _)) | (go_at_call 79; exact quiet_same (HIn.out _ ⟨_, rfl⟩)))
              go_wp2
              go_roundw
              case rel => exact ⟨k + 1, by omega, by go_num, Lib.hid (by rw [HS.out, HD.out, HPz.out, HT.out]; rfl), below_drewN hb0 _, Lib.hid H.out, Lib.hid F1.out⟩
              case measure => simp [intOf]; omega
          · have hE' : pageB z = false := by simpa using hE
            have HP := Lib.hid (fun W => l02Page z W)
            rw [hE'] at HP
            have HE := Lib.hid hE'
            clear hE hE' HIn
            go_wp2
            go_quiet (first | (go_at_call 96; exact quiet_same (HP.out _)))
            go_wp2
            go_ret
            exact ⟨ret_bool (by rw [HV.out]; exact (goodK_no zs (k + 1) (by rw [HS.out, HE.out]; simp)).symm), below_drewN hb0 _⟩
        · go_wp2
          go_ret
          exact ⟨ret_bool (by rw [HV.out, ← goodK_all zs k (by rw [HL.out]; omega), HT.out]), hb0⟩
    · have HV := Lib.hid (rootB_no (g := g) (zs := zs) (.inr (by omega)))
      have q3 : ((n : Int) != 17) = true := by simp; omega
      clear h hl h1 hg
      go_enter Try.func92, Try.ntmps92
      go_wp2_with fail
      refine (l01InG _ _ _ _).mono ?_
      rintro e w' ⟨rfl, rfl⟩
      rw [HI.out]
      go_wp2
      go_ret
      exact ⟨ret_bool HV.out.symm, hb0⟩
  · have HV := Lib.hid (rootB_no (g := g) (zs := zs) (.inl (by unfold inB at h1; simpa using h1)))
    have HI : Hid (inB 1 999999 g = false) := Lib.hid (by simpa using h1)
    clear h hl h1
    go_enter Try.func92, Try.ntmps92
    go_wp2_with fail
    refine (l01InG _ _ _ _).mono ?_
    rintro e w' ⟨rfl, rfl⟩
    rw [HI.out]
    go_wp2
    go_ret
    exact ⟨ret_bool HV.out.symm, hb0⟩
end Go.Proofs.Ytcchhbkbnbphhaa

/- The contract of impl.ReadRoot. -/
namespace Go.Proofs.Ytcchhbkbnbphhaa
open Go.RowKit

def GivesRootCode (g : Int) (zs : List Int) (code : Int) (w : World) (e : Ending) (w' : World) : Prop :=
  ∃ A n c, e = .returned (.tuple #[.agg #[.int .i64 g, .slice A n c], .int .i64 code]) ∧ Hid (zs.length = n) ∧ Hid (OwnI w' w.heap.size w'.heap.size A zs) ∧ Below w.heap.size w w'
theorem givesR_none {w w' : World} {code : Int} (h : Below w.heap.size w w') : GivesRootCode 0 [] code w (.returned (.tuple #[.agg #[.int .i64 0, .slice none 0 0], .int .i64 code])) w' :=
  ⟨_, _, _, rfl, Lib.hid rfl, Lib.hid (.inl rfl), h⟩

theorem below_st2 {w w1 : World} {b : Nat} (h : Below w.heap.size w w1) (hb : w.heap.size ≤ b) (u v : Value) : Below w.heap.size w ((w1.setCell ⟨b, 0, none⟩ u).setCell ⟨b, 1, none⟩ v) := (h.setCell (p := ⟨b, 0, none⟩) hb u).setCell (p := ⟨b, 1, none⟩) hb v
set_option maxRecDepth 100000 in
set_option maxHeartbeats 2000000 in
theorem implReadRoot (t : ByteArray) (w : World) (ht : t.size ≤ maxLen) :
    Calls Try.prog 58 #[.string t] w (GivesRootCode (rdG t) (rdZ t) (rdC t) w) := by
  unfold maxLen at ht
  have hb0 := alloc_below w (.cells #[.int .i64 0, .slice none 0 0] 31)
  by_cases h1 : 65536 < t.size
  · have h1' : (65536 : Int) < (t.size : Int) := by omega
    have HV : Hid (rdG t = 0 ∧ rdZ t = [] ∧ rdC t = 2) := Lib.hid (by unfold rdG rdZ rdC; rw [if_pos h1, if_pos h1, if_pos h1]; exact ⟨rfl, rfl, rfl⟩)
    rw [HV.out.1, HV.out.2.1, HV.out.2.2]
    clear h1
    go_enter Try.func58, Try.ntmps58
    go_wp2
    refine bodyPost_ret (v := .tuple #[.agg #[.int .i64 0, .slice none 0 0], .int .i64 2]) (by simp [results, Try.results58, go_sem]) rfl ?_
    exact givesR_none hb0
  have h1' : ¬ (65536 : Int) < (t.size : Int) := by omega
  by_cases h2 : t.size = 46
  · have h2' : (t.size : Int) = 46 := by omega
    have h2b : ((t.size : Int) != 46) = false := by rw [h2']; rfl
    have HA := Lib.hid (fun W => allDigits t W (by unfold maxLen; omega))
    by_cases h3 : allDig t.data.toList = true
    · rw [h3] at HA
      have H3 := Lib.hid h3
      have hX := ext_list t 0 6
      have hY := ext_list t 40 46
      by_cases h4 : t.data.toList.take 6 = t.data.toList.drop 40
      · have h4b : ((t.extract 0 6).toList == (t.extract 40 46).toList) = true := by
          rw [ByteArray.toList_eq, ByteArray.toList_eq, hX, hY]
          simp only [beq_iff_eq, List.drop_zero]
          rw [h4, List.take_of_length_le (by rw [List.length_drop]; show t.size - 40 ≤ 6; omega)]
        have HNg := Lib.hid (fun W => numberOf (t.extract 0 6) W (by rw [ByteArray.size_extract]; omega) (by rw [hX]; exact allDig_take _ _ (allDig_drop _ _ h3)))
        rw [hX, List.drop_zero, show 6 - 0 = 6 from rfl] at HNg
        rw [show ((numOf (t.data.toList.take 6) : Nat) : Int) = genT t.data.toList from rfl] at HNg
        have HB : Hid (rdB t.data.toList = rootB (genT t.data.toList) (tabT t.data.toList 17)) := Lib.hid (by
          unfold rdB
          rw [show decide (t.data.toList.length = 46) = true by exact decide_eq_true h2, h3, show decide (t.data.toList.take 6 = t.data.toList.drop 40) = true by exact decide_eq_true h4]
          simp)
        generalize hge : genT t.data.toList = g at HNg HB
        have HGe := Lib.hid hge
        clear hge
        have H1 := Lib.hid h1
        clear h3 hX hY h4 h1
        go_enter Try.func58, Try.ntmps58
        go_wp2
        go_quiet (first | (go_at_call 84; exact quiet_same (HA.out _)))
        go_wp2_with fail
        have HT := Lib.hid (And.intro h2 ht)
        clear h2 ht
        refine (HNg.out _).mono ?_
        rintro e w' ⟨rfl, rfl⟩
        go_wp2
        obtain ⟨W1, hW1⟩ : ∃ W1, W1 = ((w.alloc (.cells #[.int .i64 0, .slice none 0 0] 31)).drewN nq).alloc (.cells #[.int .i64 g, .slice none 0 0] 31) := ⟨_, rfl⟩
        have hb1 : Below w.heap.size w W1 := by rw [hW1]; exact bt (below_drewN hb0 nq) (alloc_below _ _)
        have X0 : Hid (Box W1 w.heap.size 31 #[.int .i64 0, .slice none 0 0]) := Lib.hid (by rw [hW1]; exact ((Box.new _ _ _).drewN nq).alloc _)
        have X1 : Hid (Box W1 (w.heap.size + 1) 31 #[.int .i64 g, .slice none 0 0]) := Lib.hid (by
          rw [hW1]; simpa using Box.new ((w.alloc (.cells #[.int .i64 0, .slice none 0 0] 31)).drewN nq) 31 #[.int .i64 g, .slice none 0 0])
        have hsz : w.heap.size + 2 ≤ W1.heap.size := by have := X1.out.lt; omega
        rw [← hW1]
        clear hW1 hb0 HA HNg h4b h2b
        go_loopw [5] (fun i wr => ∃ (k : Nat) (A : Option Addr) (c : Nat), k ≤ 17 ∧ i = .int .i64 ((6 + 2 * k : Nat) : Int) ∧ Below w.heap.size w wr ∧ Hid (Box wr w.heap.size 31 #[.int .i64 0, .slice none 0 0]) ∧ Hid (Box wr (w.heap.size + 1) 31 #[.int .i64 g, .slice A k c]) ∧ Hid (GroI wr (w.heap.size + 2) (.slice A k c) (tabT t.data.toList k)) ∧ w.heap.size + 2 ≤ wr.heap.size) (fun i _ => 40 - (intOf i).toNat)
        case atStart => exact ⟨0, none, 0, by omega, rfl, hb1, X0, X1, Lib.hid (rowv_nil _ _ _ _), hsz⟩
        case round =>
          clear X0 X1 hb1 hsz
          obtain ⟨k, A, c, hk, rfl, hbw, X0, X1, HR, hsz⟩ := hrel
          have f1 := X1.out.cell 1 rfl
          by_cases hlt : k < 17
          · have HNk := Lib.hid (fun W => numberOf (t.extract (6 + 2 * k) (6 + 2 * k + 2)) W (by rw [ByteArray.size_extract]; have := HT.out.1; omega) (by rw [ext_list]; exact allDig_take _ _ (allDig_drop _ _ H3.out)))
            rw [ext_list, show 6 + 2 * k + 2 - (6 + 2 * k) = 2 by omega, show ((numOf ((t.data.toList.drop (6 + 2 * k)).take 2) : Nat) : Int) = secT t.data.toList k from rfl] at HNk
            have HSt := Lib.hid (tabT_step t.data.toList k)
            generalize secT t.data.toList k = z at HNk HSt
            obtain ⟨i, hi⟩ : ∃ i : Nat, i = 6 + 2 * k := ⟨_, rfl⟩
            rw [← hi] at HNk ⊢
            have HI := Lib.hid hi
            have hi1 : (i : Int) < 40 := by omega
            have hi2 : i + 2 ≤ 40 := by omega
            have p1 : (0 : Int) ≤ (i : Int) + 2 := by omega
            have p2 : (i : Int) + 2 ≤ 46 := by omega
            have p3 : (i : Int) ≤ (i : Int) + 2 := by omega
            have p4 : ((i : Int) + 2).toNat = i + 2 := by omega
            have e1 : IntKind.i64.wrap ((i : Int) + 2) = (i : Int) + 2 := IntWalk.i64_in _ (by omega)
            clear hi
            have HRk : Hid (wr.ownsRow (w.heap.size + 2) 3 1 (.slice A k c) k ((tabT t.data.toList k).map (Value.int .i64))) := Lib.hid (by have := HR.out; unfold GroI at this; rwa [tabT_len] at this)
            have HLz := Lib.hid (tabT_len t.data.toList k)
            generalize tabT t.data.toList k = zs at HRk HSt HLz
            have HOw : Hid ((wr.drew.alloc (.cells #[.int .i64 z] 3)).ownsRow (w.heap.size + 2) 3 1 (.slice A k c) k (zs.map (Value.int .i64))) := Lib.hid (rowv_below HRk.out (bt ((Below.refl _ _).drew) (alloc_below _ _)))
            have HNw : Hid (∀ j u, [Value.int .i64 z][j]? = some u → (wr.drew.alloc (.cells #[.int .i64 z] 3)).cell? ⟨wr.heap.size, j, none⟩ = some u) := Lib.hid (fun j u hj => by
              match j, hj with
              | 0, hj => simp at hj; subst hj; exact (Box.new wr.drew 3 #[.int .i64 z]).cell 0 rfl)
            have HBa : Hid (Below wr.heap.size wr (wr.drew.alloc (.cells #[.int .i64 z] 3))) := Lib.hid (bt ((Below.refl _ _).drew) (alloc_below _ _))
            have HXa : Hid (Box (wr.drew.alloc (.cells #[.int .i64 z] 3)) (w.heap.size + 1) 31 #[.int .i64 g, .slice A k c]) := Lib.hid (X1.out.step HBa.out)
            have f2 : (wr.alloc (.cells #[.int .i64 z] 3)).drew.cell? ⟨w.heap.size + 1, 1, none⟩ = some (.slice A k c) := HXa.out.cell 1 rfl
            go_wp2
            go_region_law (first
              | (refine step_app_one rfl (.tmp 35) (.tmp 42) 29 3 rfl (.int .i64 0) 1 8 elemInt Try.underlying29 (w.heap.size + 2) (.slice A k c) k (zs.map (Value.int .i64)) ?_ HOw.out wr.heap.size 1 ?_ [.int .i64 z] rfl HNw.out ?_ ?_ ?_ ?_ ?_; simp [Act.eval]; simp [Act.eval]; (intro u hu; simp at hu; subst hu; rfl); (unfold maxLen; omega); omega; (simp; omega); intro A' c' w4 hR4 hc4 hg4 hb4; have HX4 := Lib.hid (HXa.out.below hb4 (by omega)); have y0 := HX4.out.cell 1 rfl; have y1 := HX4.out.frozen 1)
              | ((rw [if_pos (by rfl)]); go_simp; go_at_call 85; refine (HNk.out _).mono ?_; rintro e w' ⟨rfl, rfl⟩))
            all_goals clear f1 f2 e1 p1 p2 p3 p4
            all_goals (
              have HR4 := Lib.hid hR4
              have hbz : Below w.heap.size w w4 := bt hbw (bt HBa.out (Below.refl _ _)) |>.trans (hb4.mono (by omega))
              have hs4 : w.heap.size + 2 ≤ w4.heap.size := Nat.le_trans (Nat.le_trans hsz HBa.out.size) hb4.size
              have HX0 := Lib.hid ((X0.out.step HBa.out).below hb4 (by omega))
              clear hR4 hb4 hg4 y0 y1
              go_wp2
              go_roundw
              case rel => exact ⟨k + 1, A', c', by omega, by have := HI.out; congr 1; omega, hbz.setCell (by show w.heap.size ≤ w.heap.size + 1; omega) _, Lib.hid (HX0.out.far (by show w.heap.size ≠ w.heap.size + 1; omega) _), Lib.hid (HX4.out.set 1 _), Lib.hid (by unfold GroI; rw [HSt.out, List.length_append]; have := rowv_set HR4.out (p := ⟨w.heap.size + 1, 1, none⟩) (by show w.heap.size + 1 < w.heap.size + 2; omega) (.slice A' (k + 1) c'); simpa [HLz.out] using this), by simpa [World.setCell] using hs4⟩
              case measure => simp [intOf]; omega)
          · obtain rfl : k = 17 := by omega
            have f0 := X1.out.cell 0 rfl
            have hlt' : ¬ ((6 + 2 * 17 : Nat) : Int) < 40 := by omega
            have HV := Lib.hid (rootValid g A 17 c (tabT t.data.toList 17) wr (tabT_len _ _) (by unfold maxLen; omega) (HR.out.own (Nat.le_refl _)).reads)
            have HG1 : Hid (¬ 65536 < t.size) := H1
            by_cases hv : rootB g (tabT t.data.toList 17) = true
            · rw [hv] at HV
              have HW : Hid (rdG t = genT t.data.toList ∧ rdZ t = tabT t.data.toList 17 ∧ rdC t = 0) := Lib.hid (by
                unfold rdG rdZ rdC; rw [if_neg H1.out, if_neg H1.out, if_neg H1.out, HB.out, if_pos hv, if_pos hv, if_pos hv]; exact ⟨rfl, rfl, rfl⟩)
              clear hv
              go_wp2_with fail
              refine HV.out.mono ?_
              rintro e w5 ⟨rfl, hb5⟩
              have HX1 := Lib.hid (X1.out.step hb5)
              have HX0 := Lib.hid (X0.out.step hb5)
              have y0 := HX1.out.cell 0 rfl
              have y1 := HX1.out.cell 1 rfl
              have y2 := HX0.out.cell 0 rfl
              have y3 := HX0.out.cell 1 rfl
              have y4 := HX0.out.frozen 0
              have y5 := HX0.out.frozen 1
              have HO := Lib.hid (((HR.out.own (lo := w.heap.size) (by omega)).below hb5))
              have hbz := bt hbw hb5
              clear f0 f1
              go_wp2
              refine bodyPost_ret (v := .tuple #[.agg #[.int .i64 g, .slice A 17 c], .int .i64 0]) (by simp [results, Try.results58, go_sem, y2, y3]) rfl ?_
              rw [HW.out.1, HW.out.2.1, HW.out.2.2, HGe.out]
              refine ⟨_, _, _, rfl, Lib.hid (tabT_len _ _), Lib.hid ?_, below_st2 hbz (Nat.le_refl _) _ _⟩
              exact (((HO.out.wide (Nat.le_refl _) hb5.size).far HX0.out (by decide) 0 _).far (HX0.out.set 0 _) (by decide) 1 _).wide (Nat.le_refl _) (by simp [World.setCell])
            · have hv' : rootB g (tabT t.data.toList 17) = false := by simpa using hv
              rw [hv'] at HV
              have HW : Hid (rdG t = 0 ∧ rdZ t = [] ∧ rdC t = 9) := Lib.hid (by
                unfold rdG rdZ rdC; rw [if_neg H1.out, if_neg H1.out, if_neg H1.out, HB.out, if_neg hv, if_neg hv, if_neg hv]; exact ⟨rfl, rfl, rfl⟩)
              clear hv hv'
              go_wp2_with fail
              refine HV.out.mono ?_
              rintro e w5 ⟨rfl, hb5⟩
              have HX0 := Lib.hid (X0.out.step hb5)
              have y2 := HX0.out.cell 0 rfl
              have y3 := HX0.out.cell 1 rfl
              have y4 := HX0.out.frozen 0
              have y5 := HX0.out.frozen 1
              have hbz := bt hbw hb5
              clear f0 f1
              go_wp2
              refine bodyPost_ret (v := .tuple #[.agg #[.int .i64 0, .slice none 0 0], .int .i64 9]) (by simp [results, Try.results58, go_sem, y2, y3]) rfl ?_
              rw [HW.out.1, HW.out.2.1, HW.out.2.2]
              exact givesR_none (below_st2 hbz (Nat.le_refl _) _ _)
      · have h4b : ((t.extract 0 6).toList == (t.extract 40 46).toList) = false := by
          rw [ByteArray.toList_eq, ByteArray.toList_eq, hX, hY]
          simp only [beq_eq_false_iff_ne, List.drop_zero]
          rw [List.take_of_length_le (l := t.data.toList.drop 40) (by rw [List.length_drop]; show t.size - 40 ≤ 6; omega)]
          exact h4
        have HW : Hid (rdG t = 0 ∧ rdZ t = [] ∧ rdC t = 9) := Lib.hid (by
          have : rdB t.data.toList = false := by
            unfold rdB
            rw [show decide (t.data.toList.take 6 = t.data.toList.drop 40) = false by exact decide_eq_false h4]
            simp
          unfold rdG rdZ rdC; rw [if_neg h1, if_neg h1, if_neg h1, this]; exact ⟨rfl, rfl, rfl⟩)
        rw [HW.out.1, HW.out.2.1, HW.out.2.2]
        clear h3 hX hY h4 h1
        go_enter Try.func58, Try.ntmps58
        go_wp2
        go_quiet (first | (go_at_call 84; exact quiet_same (HA.out _)))
        go_wp2
        refine bodyPost_ret (v := .tuple #[.agg #[.int .i64 0, .slice none 0 0], .int .i64 9]) (by simp [results, Try.results58, go_sem]) rfl ?_
        exact givesR_none (below_st2 (below_drewN hb0 _) (Nat.le_refl _) _ _)
    · have h3' : allDig t.data.toList = false := by simpa using h3
      rw [h3'] at HA
      have HW : Hid (rdG t = 0 ∧ rdZ t = [] ∧ rdC t = 9) := Lib.hid (by
        have : rdB t.data.toList = false := by unfold rdB; rw [h3']; simp
        unfold rdG rdZ rdC; rw [if_neg h1, if_neg h1, if_neg h1, this]; exact ⟨rfl, rfl, rfl⟩)
      rw [HW.out.1, HW.out.2.1, HW.out.2.2]
      clear h3 h3' h1
      go_enter Try.func58, Try.ntmps58
      go_wp2
      go_quiet (first | (go_at_call 84; exact quiet_same (HA.out _)))
      go_wp2
      refine bodyPost_ret (v := .tuple #[.agg #[.int .i64 0, .slice none 0 0], .int .i64 9]) (by simp [results, Try.results58, go_sem]) rfl ?_
      exact givesR_none (below_st2 (below_drewN hb0 _) (Nat.le_refl _) _ _)
  · have h2b : ((t.size : Int) != 46) = true := by simp; omega
    have HW : Hid (rdG t = 0 ∧ rdZ t = [] ∧ rdC t = 9) := Lib.hid (by
      have : rdB t.data.toList = false := by unfold rdB; rw [show decide (t.data.toList.length = 46) = false by exact decide_eq_false h2]; simp
      unfold rdG rdZ rdC; rw [if_neg h1, if_neg h1, if_neg h1, this]; exact ⟨rfl, rfl, rfl⟩)
    rw [HW.out.1, HW.out.2.1, HW.out.2.2]
    clear h1
    go_enter Try.func58, Try.ntmps58
    go_wp2
    go_quiet (fail)
    go_wp2
    refine bodyPost_ret (v := .tuple #[.agg #[.int .i64 0, .slice none 0 0], .int .i64 9]) (by simp [results, Try.results58, go_sem]) rfl ?_
    exact givesR_none (below_st2 (below_drewN hb0 _) (Nat.le_refl _) _ _)
end Go.Proofs.Ytcchhbkbnbphhaa
