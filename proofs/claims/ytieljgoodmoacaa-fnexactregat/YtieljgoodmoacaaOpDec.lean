/- Decode on both sides. -/
import Derived.Test.YtieljgoodmoacaaOpLen
namespace Go.Proofs.Ytieljgoodmoacaa
open Go.RowKit

def decArg (a b c : Int) : Int := if lenT (a / 8) = 2 then b else if lenT (a / 8) = 3 then b + 256 * c else 0
def decV (a b c : Int) : Int × Int × Int := if okIns (a / 8) (a % 8) (decArg a b c) then (a / 8, a % 8, decArg a b c) else (22, 0, 0)
def byT (a b c : Int) : Bool := rngB a 0 255 && (rngB b 0 255 && rngB c 0 255)
def dcdF (a b c : Int) : (Int × Int × Int) × Int := if byT a b c then (decV a b c, 0) else ((0, 0, 0), 4)
theorem byT_t {a b c : Int} (h : (0 ≤ a ∧ a ≤ 255) ∧ (0 ≤ b ∧ b ≤ 255) ∧ (0 ≤ c ∧ c ≤ 255)) : byT a b c = true := by unfold byT; rw [rngB_t h.1, rngB_t h.2.1, rngB_t h.2.2]; rfl
theorem byT_f {a b c : Int} (h : ¬ ((0 ≤ a ∧ a ≤ 255) ∧ (0 ≤ b ∧ b ≤ 255) ∧ (0 ≤ c ∧ c ≤ 255))) : byT a b c = false := by
  unfold byT
  by_cases h1 : 0 ≤ a ∧ a ≤ 255
  · by_cases h2 : 0 ≤ b ∧ b ≤ 255
    · rw [rngB_t h1, rngB_t h2, rngB_f (fun h3 => h ⟨h1, h2, h3⟩)]; rfl
    · rw [rngB_t h1, rngB_f h2]; rfl
  · rw [rngB_f h1]; rfl
theorem bcells {W w1 : World} (hb : Below W.heap.size W w1) : (∀ b o, b < W.heap.size → w1.cell? ⟨b, o, none⟩ = W.cell? ⟨b, o, none⟩) ∧ (∀ b o, b < W.heap.size → w1.frozen? ⟨b, o, none⟩ = W.frozen? ⟨b, o, none⟩) :=
  ⟨fun b o h => hb.cell (p := ⟨b, o, none⟩) h, fun b o h => hb.frozen (p := ⟨b, o, none⟩) h⟩

def byN (n : Int) : Bool := rngB n 0 255
set_option maxRecDepth 100000 in
set_option maxHeartbeats 1000000 in
theorem l05BytesA (A : Option Addr) (n c : Nat) (zs : List Int) (w : World) (hl : zs.length = n) (hn : n ≤ maxLen) (h : IntL w A zs) :
    Calls Try.prog 34 #[.slice A n c] w fun e w' => e = .returned (.bool (zs.all byN)) ∧ w = w' := by
  unfold maxLen at hn
  have HL := Lib.hid hl
  have H := Lib.hid h
  clear hl h
  go_enter Try.func34, Try.ntmps34
  go_wp2
  go_loop [3] (fun i => ∃ k : Nat, k ≤ n ∧ i = .int .i64 k ∧ Hid (zs.all byN = (zs.drop k).all byN)) (fun i => n - (intOf i).toNat)
  case atStart => exact ⟨0, Nat.zero_le _, rfl, Lib.hid rfl⟩
  case round =>
    obtain ⟨k, hk, rfl, HT⟩ := hrel
    by_cases hlt : k < n
    · obtain ⟨b, off, rfl, hc⟩ := H.out k (by rw [HL.out]; exact hlt)
      have HS := Lib.hid (all_step byN zs 0 k (by rw [HL.out]; exact hlt))
      generalize zs.getD k 0 = x at hc HS
      have hi : (k : Int) < (n : Int) := by omega
      by_cases hE : rngB x 0 255 = true
      · go_wp2_with (first | (go_at_call 33; refine (l01InA _ _ _ _).mono ?_; rintro e w' ⟨rfl, rfl⟩; rw [hE]))
        go_round
        case rel => exact ⟨k + 1, by omega, by go_num, Lib.hid (by rw [HT.out, HS.out, show byN x = true from hE]; rfl)⟩
        case measure => simp [intOf]; omega
      · have hE' : rngB x 0 255 = false := by simpa using hE
        clear hE
        go_wp2_with (first | (go_at_call 33; refine (l01InA _ _ _ _).mono ?_; rintro e w' ⟨rfl, rfl⟩; rw [hE']))
        go_ret
        exact ⟨ret_bool (by rw [HT.out, HS.out, show byN x = false from hE']; rfl), rfl⟩
    · have HT2 : Hid (zs.all byN = true) := Lib.hid (by rw [HT.out]; exact all_end _ _ _ (by rw [HL.out]; omega))
      go_wp2
      go_ret
      exact ⟨ret_bool HT2.out.symm, rfl⟩

section
variable (a b c : Int) (w : World)
end
end Go.Proofs.Ytieljgoodmoacaa
