/- Contracts of commanded, chip.next, chip.wipe. -/
import Derived.Test.YtieljgoodmoacaaChipFlash
namespace Go.Proofs.Ytieljgoodmoacaa
open Go.RowKit

def cmdS (v : Int) : Int := if v = 160 then 3 else if v = 128 then 4 else if v = 144 then 7 else if v = 154 then 8 else 0
def nextS (st k v : Int) : Int :=
  if st = 0 ∨ st = 4 then (if k = 85 ∧ v = 170 then st + 1 else 0)
  else if st = 1 ∨ st = 5 then (if k = 42 ∧ v = 85 then st + 1 else 0)
  else if st = 2 then (if k = 85 then cmdS v else 0)
  else if st = 7 then (if v = 240 then 0 else 7)
  else 0
def eraseN (zs : List Int) (gs : List Bool) : Nat → List Int
  | 0 => zs
  | n + 1 => eraseL (eraseN zs gs n) gs n
theorem eraseN_len (zs : List Int) (gs : List Bool) : ∀ n, (eraseN zs gs n).length = zs.length
  | 0 => rfl
  | n + 1 => by rw [eraseN, eraseL_len, eraseN_len zs gs n]
def wipeZ (zs : List Int) (gs : List Bool) (k v : Nat) : List Int :=
  if v = 16 then (if k = 85 then eraseN zs gs 16 else zs) else if v = 48 then eraseL zs gs (k / 16) else zs
theorem wipeZ_len (zs : List Int) (gs : List Bool) (k v : Nat) : (wipeZ zs gs k v).length = zs.length := by
  unfold wipeZ
  split
  · split
    · exact eraseN_len _ _ _
    · rfl
  · split
    · exact eraseL_len _ _ _
    · rfl

set_option maxRecDepth 100000 in
theorem commanded (v : Int) (w : World) : Calls Try.prog 119 #[.int .u8 v] w fun e w' => e = .returned (.int .i64 (cmdS v)) ∧ w = w' := by
  go_enter Try.func119, Try.ntmps119
  go_wp2
  all_goals go_ret
  all_goals (refine ⟨ret_int ?_, rfl⟩)
  all_goals (unfold cmdS; simp_all)

set_option maxRecDepth 100000 in
set_option maxHeartbeats 4000000 in
theorem chipNext (k v : Nat) (zs : List Int) (gs : List Bool) (st : Int) (w : World) (hz : zs.length = 256) (hg : gs.length = 16) (hs : 0 ≤ st ∧ st ≤ 8) :
    Calls Try.prog 117 #[.agg (chipC zs gs st).toArray, .int .i64 k, .int .u8 v] w fun e w' => e = .returned (.int .i64 (nextS st k v)) ∧ Below w.heap.size w w' := by
  have hb0 := alloc_below w (.cells (chipC zs gs st).toArray 97)
  have x0 := (BC.new w zs gs st).state hz hg
  generalize chipC zs gs st = cs at hb0 x0
  clear hz hg
  have h9 : st = 0 ∨ st = 1 ∨ st = 2 ∨ st = 3 ∨ st = 4 ∨ st = 5 ∨ st = 6 ∨ st = 7 ∨ st = 8 := by omega
  clear hs
  have hcm := fun W => commanded (v : Int) W
  have HC := Lib.hid hcm
  clear hcm
  rcases h9 with rfl | rfl | rfl | rfl | rfl | rfl | rfl | rfl | rfl
  all_goals (
    go_enter Try.func117, Try.ntmps117
    go_wp2_with (first | (go_at_call 119; refine (HC.out _).mono ?_; rintro e w' ⟨rfl, rfl⟩)))
  all_goals go_ret
  all_goals (refine ⟨ret_int ?_, hb0⟩)
  all_goals (unfold nextS; simp_all)
end Go.Proofs.Ytieljgoodmoacaa
