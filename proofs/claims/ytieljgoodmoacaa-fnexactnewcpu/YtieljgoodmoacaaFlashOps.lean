/- What the functions that hand back a flash and a code answer; the model's ProgramCell, EraseBlock, GuardBlock. -/
import Derived.Test.YtieljgoodmoacaaFlashSpec2
import Derived.Deep.RegionHeld3
namespace Go.Proofs.Ytieljgoodmoacaa
open Go.RowKit

def gate (cd : Int) (zs : List Int) (gs : List Bool) (st : Int) : List Int × List Bool × Int × Int := if cd = 0 then (zs, gs, st, 0) else ([], [], 0, cd)
def progOf (zs : List Int) (gs : List Bool) (st a v : Int) := gate (codeIf (okFlash zs gs st) (byB a && byB v)) (progL zs gs a.toNat v.toNat) gs st
def eraseOf (zs : List Int) (gs : List Bool) (st a : Int) := gate (codeIf (okFlash zs gs st) (blkB a)) (eraseL zs gs a.toNat) gs st
def guardOf (zs : List Int) (gs : List Bool) (st a : Int) := gate (codeIf (okFlash zs gs st) (blkB a)) zs (gs.set a.toNat true) st
theorem codeIf_ok {f ok : Bool} (h : codeIf f ok = 0) : f = true ∧ ok = true := by unfold codeIf at h; cases f <;> cases ok <;> simp_all
theorem gate_bound {f ok : Bool} {zs : List Int} {gs : List Bool} {st : Int} (h : f = true → zs.length ≤ 1048576 ∧ gs.length ≤ 1048576) : (gate (codeIf f ok) zs gs st).1.length ≤ 1048576 ∧ (gate (codeIf f ok) zs gs st).2.1.length ≤ 1048576 := by
  unfold gate
  by_cases q : codeIf f ok = 0
  · rw [if_pos q]; exact h (codeIf_ok q).1
  · rw [if_neg q]; simp
theorem progOf_bound (zs : List Int) (gs : List Bool) (st a v : Int) : (progOf zs gs st a v).1.length ≤ 1048576 ∧ (progOf zs gs st a v).2.1.length ≤ 1048576 := gate_bound (fun h => by have := okFlash_len h; rw [progL_len]; omega)
theorem eraseOf_bound (zs : List Int) (gs : List Bool) (st a : Int) : (eraseOf zs gs st a).1.length ≤ 1048576 ∧ (eraseOf zs gs st a).2.1.length ≤ 1048576 := gate_bound (fun h => by have := okFlash_len h; rw [eraseL_len]; omega)
theorem guardOf_bound (zs : List Int) (gs : List Bool) (st a : Int) : (guardOf zs gs st a).1.length ≤ 1048576 ∧ (guardOf zs gs st a).2.1.length ≤ 1048576 := gate_bound (fun h => by have := okFlash_len h; rw [List.length_set]; omega)
theorem progL_range {zs : List Int} {gs : List Bool} {k v : Nat} (h : ∀ z ∈ zs, 0 ≤ z ∧ z ≤ 255) (hv : v < 256) : ∀ z ∈ progL zs gs k v, 0 ≤ z ∧ z ≤ 255 := by
  intro z hz
  unfold progL at hz
  split at hz
  · exact h z hz
  · rcases List.mem_or_eq_of_mem_set hz with q | rfl
    · exact h z q
    · have := and_lt v (zs.getD k 0).toNat hv
      rw [Nat.and_comm] at this
      omega
theorem fillR_range {zs : List Int} (h : ∀ z ∈ zs, 0 ≤ z ∧ z ≤ 255) (a b : Nat) : ∀ z ∈ fillR zs a b, 0 ≤ z ∧ z ≤ 255 := by
  intro z hz
  unfold fillR at hz
  obtain ⟨i, hi, rfl⟩ := List.mem_map.1 hz
  have hi' : i < zs.length := by simpa using hi
  split
  · omega
  · exact h _ (by rw [List.getD_eq_getElem?_getD, List.getElem?_eq_getElem hi']; exact List.getElem_mem _)
theorem eraseL_range {zs : List Int} {gs : List Bool} {b : Nat} (h : ∀ z ∈ zs, 0 ≤ z ∧ z ≤ 255) : ∀ z ∈ eraseL zs gs b, 0 ≤ z ∧ z ≤ 255 := by
  intro z hz
  unfold eraseL at hz
  split at hz
  · exact h z hz
  · exact fillR_range h _ _ z hz
def GivesOf (r : List Int × List Bool × Int × Int) (w : World) (e : Ending) (w' : World) : Prop := GivesFlashCode r.1 r.2.1 r.2.2.1 r.2.2.2 w e w'

end Go.Proofs.Ytieljgoodmoacaa
