/- The model's source of draws: fates. -/
import Derived.Test.YtoogaaoknpfkoaaSome
namespace Go.Proofs.Ytoogaaoknpfkoaa
open Go.RowKit

theorem intL_of_owns {w : World} {base n : Nat} {e : TypeId} {g cap : Nat} {xs : List Int} (hl : xs.length = n) (h : w.ownsRow base e 1 (.slice (some ⟨g, 0, none⟩) n cap) n (xs.map (Value.int .i64))) : IntL w (some ⟨g, 0, none⟩) xs := fun i hi =>
  ⟨g, 0, rfl, owns_cells h i (by omega)⟩

/-- The fates that are drawn, i of them, from a count and a seed on. -/
def fatesN (zs : List Nat) : Nat → Nat → Nat → List Int
  | 0, _, _ => []
  | i + 1, k, sd => (((byteV zs k sd).1 % 3 : Nat) : Int) :: fatesN zs i (byteV zs k sd).2.1 (byteV zs k sd).2.2
def fatesX (zs : List Nat) (k sd : Nat) : List Int := fatesN zs ((byteV zs k sd).1 % 4) (byteV zs k sd).2.1 (byteV zs k sd).2.2
theorem fatesN_len (zs : List Nat) : ∀ i k sd, (fatesN zs i k sd).length = i
  | 0, _, _ => rfl
  | i + 1, k, sd => by rw [fatesN, List.length_cons, fatesN_len]
theorem fatesN_in (zs : List Nat) : ∀ i k sd, ∀ x ∈ fatesN zs i k sd, 0 ≤ x ∧ x ≤ 2
  | 0, _, _, x, h => by cases h
  | i + 1, k, sd, x, h => by
    rw [fatesN] at h
    rcases List.mem_cons.1 h with rfl | h
    · have := Nat.mod_lt (byteV zs k sd).1 (show 0 < 3 by omega); omega
    · exact fatesN_in zs i _ _ x h
theorem fatesX_len (zs : List Nat) (k sd : Nat) : (fatesX zs k sd).length ≤ 3 := by
  unfold fatesX; rw [fatesN_len]; have := Nat.mod_lt (byteV zs k sd).1 (show 0 < 4 by omega); omega
theorem fatesX_in (zs : List Nat) (k sd : Nat) : ∀ x ∈ fatesX zs k sd, 0 ≤ x ∧ x ≤ 2 := fatesN_in zs _ _ _

/-- These fates, and what else holds of the world. -/
def GivesFates (xs : List Int) (R : World → Prop) (e : Ending) (w' : World) : Prop :=
  ∃ (F : Option Addr) (nf cf : Nat), e = .returned (.slice F nf cf) ∧ Hid (xs.length = nf) ∧ Hid (IntL w' F xs) ∧ Hid (R w')

set_option maxRecDepth 100000 in
set_option maxHeartbeats 4000000 in
theorem srcFates (b : Nat) (A : Option Addr) (n c : Nat) (zs : List Nat) (k0 s0 : Nat) (w : World) (hK : k0 ≤ 1000000) (h : SrcX w b A n c zs k0 s0) :
    Calls Try.prog 84 #[.pointer (some ⟨b, 0, none⟩)] w (GivesFates (fatesX zs k0 s0) (fun w' => Btw b (b + 1) w w')) := by
  have hlt : b < w.heap.size := h.1.lt
  obtain ⟨T, hT0⟩ : ∃ T, T = fatesX zs k0 s0 := ⟨_, rfl⟩
  rw [← hT0]
  have HT0 := Lib.hid hT0
  clear hT0
  obtain ⟨i0, hi0, hz0, hz1, hz2⟩ := infoIx
  have HI := Lib.hid (And.intro hi0 (And.intro hz0 (And.intro hz1 hz2)))
  clear hi0 hz0 hz1 hz2
  have hb0 := alloc_below w (.cells #[] 3)
  have HS0 := Lib.hid (h.below hb0 hlt)
  have HB0 : Hid (Btw b (b + 1) w (w.alloc (.cells #[] 3))) := Lib.hid ((Btw.refl b (b + 1) w).alloc _)
  have HO0 := Lib.hid (owns_empty (base := w.heap.size) (Nat.le_refl _) (Box.new w 3 #[]))
  clear h hb0
  have HC := Lib.hid (srcNextX 4 b A n c zs k0 s0 _ (by omega) (by omega) (by omega) HS0.out)
  go_enter Try.func84, Try.ntmps84
  go_wp2_with fail
  refine HC.out.mono ?_
  rintro e w0 ⟨rfl, S0, hb0⟩
  have HT : Hid (T = fatesN zs ((byteV zs k0 s0).1 % 4) (byteV zs k0 s0).2.1 (byteV zs k0 s0).2.2) := Lib.hid HT0.out
  clear HT0
  have hv0 : (byteV zs k0 s0).1 % 4 < 4 := Nat.mod_lt _ (by omega)
  have hk1 : (byteV zs k0 s0).2.1 = k0 + 1 := byteV_at _ _ _
  generalize (byteV zs k0 s0).1 % 4 = v0 at HT hv0 ⊢
  generalize (byteV zs k0 s0).2.1 = k1 at HT S0 hk1
  generalize (byteV zs k0 s0).2.2 = s1 at HT S0
  have HB0' := Lib.hid (HB0.out.trans hb0)
  have HO0' := Lib.hid (owns_keep HO0.out (fun j h1 h2 => hb0.block j h2 (.inr (by omega))))
  clear HC HS0 HB0 HO0 hb0
  go_wp2
  go_loopw [3, 4] (fun o q wr => ∃ (i k g cap : Nat) (xs : List Int), i + k ≤ 3 ∧ o = .slice (some ⟨g, 0, none⟩) k cap ∧ q = .int .i64 i ∧ Hid (xs.length = k) ∧ Hid (wr.ownsRow w.heap.size 3 1 (.slice (some ⟨g, 0, none⟩) k cap) k (xs.map (Value.int .i64))) ∧ Hid (∃ kk ss, kk ≤ 1000000 + 1 + k ∧ SrcX wr b A n c zs kk ss ∧ T = xs ++ fatesN zs i kk ss) ∧ Btw b (b + 1) w wr) (fun _ q _ => (intOf q).toNat)
  case atStart => exact ⟨v0, 0, _, _, [], by omega, rfl, rfl, Lib.hid rfl, HO0', Lib.hid ⟨k1, s1, by omega, S0.out, by rw [HT.out]; rfl⟩, HB0'.out⟩
  case round =>
    obtain ⟨i, k, g, cap, xs, hk, rfl, rfl, HL, HO, HS, hbw⟩ := hrel
    by_cases hkn : 0 < i
    · have hi : (0 : Int) < (i : Int) := by omega
      obtain ⟨kk, sd, hkk, hx, hT⟩ := HS.out
      have HC := Lib.hid (srcNextX 3 b A n c zs kk sd wr (by omega) (by omega) (by omega) hx)
      obtain ⟨j, rfl⟩ : ∃ j, i = j + 1 := ⟨i - 1, by omega⟩
      have HT2 : Hid (T = xs ++ (((byteV zs kk sd).1 % 3 : Nat) : Int) :: fatesN zs j (byteV zs kk sd).2.1 (byteV zs kk sd).2.2) := Lib.hid (by rw [hT, fatesN])
      have hk2 : (byteV zs kk sd).2.1 = kk + 1 := byteV_at _ _ _
      clear hx hT
      go_wp2_with fail
      refine HC.out.mono ?_
      rintro e w1 ⟨rfl, S1, hb1⟩
      generalize (byteV zs kk sd).1 % 3 = v at HT2 ⊢
      generalize (byteV zs kk sd).2.1 = k2 at HT2 S1 hk2
      generalize (byteV zs kk sd).2.2 = s2 at HT2 S1
      clear HC HS
      have HO1 := Lib.hid (owns_keep HO.out (fun j h1 h2 => hb1.block j h2 (.inr (by omega))))
      have HB1 := Lib.hid (hbw.trans hb1)
      have k2 := Lib.hid (alloc_below w1 (.cells #[.int .i64 (v : Int)] 3))
      have HOw := Lib.hid (owns_keep HO1.out (fun j _ h2 => k2.out.block j h2))
      have HNw : Hid (∀ j u, [Value.int .i64 (v : Int)][j]? = some u → (w1.alloc (.cells #[.int .i64 (v : Int)] 3)).cell? ((⟨w1.heap.size, 0, none⟩ : Addr).add j) = some u) := Lib.hid (fun j u hj => by
        have hB := Box.new w1 3 #[.int .i64 (v : Int)]
        match j, hj with
        | 0, hj => simp at hj; subst hj; exact hB.cell 0 rfl)
      have hw1 : w.heap.size ≤ w1.heap.size := HB1.out.size
      go_wp2_with (at_builtin; refine wpList_append_own _ rfl (.tmp 12) (.tmp 15) 36 rfl w.heap.size 3 i0 (.int .i64 0) 1 8 Try.underlying36 HI.out.1 HI.out.2.1 HI.out.2.2.1 HI.out.2.2.2 rfl (by decide) _ k (xs.map (Value.int .i64)) rfl ?hown ⟨w1.heap.size, 0, none⟩ 1 1 [.int .i64 (v : Int)] rfl rfl ?hnews ?hone ?h63 ?hby ?hbase ?_)
      case hown => exact HOw.out
      case hnews => exact HNw.out
      case hone => intro u hu; simp at hu; subst hu; rfl
      case h63 => unfold maxLen; omega
      case hby => omega
      case hbase => simp; omega
      intro v1 w4 hown hgr hniff
      rw [map_snoc (Value.int .i64)] at hown
      obtain ⟨gg, cap', hv1, p1, p2⟩ := owns_form hown (by omega)
      subst hv1
      have hge := ownBlock_ge1 HOw.out
      have HS4 := Lib.hid ((S1.out.below (k2.out.mono hw1) hlt).below (below_of_grown (B := w.heap.size) hgr hge (by simp; omega)) hlt)
      have HB4 := Lib.hid (btw_grown (HB1.out.alloc (.cells #[.int .i64 (v : Int)] 3)) hgr hge)
      have HO4 := Lib.hid hown
      clear hown hgr hniff hge k2 HOw HNw HO1 HB1 S1 hb1 HO
      go_wp2
      go_roundw
      case rel => exact ⟨j, k + 1, gg, cap', xs ++ [(v : Int)], by omega, rfl, by go_num, Lib.hid (by rw [List.length_append, HL.out]; rfl), HO4, Lib.hid ⟨k2, s2, by omega, HS4.out, by rw [HT2.out]; simp⟩, HB4.out⟩
      case measure => (simp [intOf] <;> omega)
    · have hi : ¬ (0 : Int) < (i : Int) := by omega
      go_wp2
      refine bodyPost_ret (v := .slice (some ⟨g, 0, none⟩) k cap) (by simp [results, Try.results84, go_sem]) rfl ?_
      obtain ⟨kk, sd, _, _, hT⟩ := HS.out
      obtain rfl : i = 0 := by omega
      have hTx : T = xs := by rw [hT, fatesN, List.append_nil]
      rw [hTx]
      exact ⟨_, _, _, rfl, HL, Lib.hid (intL_of_owns HL.out HO.out), Lib.hid hbw⟩
end Go.Proofs.Ytoogaaoknpfkoaa
