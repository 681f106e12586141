/- Region on both sides. -/
import Derived.Test.YtdanefhfngmipaaMemOk
namespace Go.Proofs.Ytdanefhfngmipaa
open Go.RowKit

def regF (a : Int) : Int × Int × Int := if adB a = true then (regR a, regK a, 0) else (0, 0, 4)
set_option maxRecDepth 100000 in
theorem implRegion (a : Int) (w : World) : Calls Try.prog 16 #[.int .i64 a] w fun e w' => e = .returned (.tuple #[.int .i64 (regF a).1, .int .i64 (regF a).2.1, .int .i64 (regF a).2.2]) ∧ Below w.heap.size w w' := by
  by_cases h : adB a = true
  · have HE : Hid (regF a = (regR a, regK a, 0)) := Lib.hid (by unfold regF; rw [if_pos h])
    have HR := Lib.hid (fun W => regionOf a W (adB_range h).1 (adB_range h).2)
    generalize regF a = r at HE
    generalize regR a = r0 at HE HR
    generalize regK a = r1 at HE HR
    go_enter Try.func16, Try.ntmps16
    go_wp2_with (first | (go_at_call 52; refine (isAddress _ _).mono ?_; rintro e w' ⟨rfl, rfl⟩; rw [h]) | (go_at_call 53; refine (HR.out _).mono ?_; rintro e w' ⟨rfl, rfl⟩))
    exact bodyPost_ret (v := .tuple #[.int .i64 r0, .int .i64 r1, .int .i64 0]) (by simp [results, Try.results16, go_sem]) rfl ⟨by rw [HE.out], Below.refl _ _⟩
  · have HE : Hid (regF a = (0, 0, 4)) := Lib.hid (by unfold regF; rw [if_neg h])
    have h' : adB a = false := by simpa using h
    generalize regF a = r at HE
    clear h
    go_enter Try.func16, Try.ntmps16
    go_wp2_with (first | (go_at_call 52; refine (isAddress _ _).mono ?_; rintro e w' ⟨rfl, rfl⟩; rw [h']))
    exact bodyPost_ret (v := .tuple #[.int .i64 0, .int .i64 0, .int .i64 4]) (by simp [results, Try.results16, go_sem]) rfl ⟨by rw [HE.out], Below.refl _ _⟩
set_option maxRecDepth 100000 in
theorem specRegion (a : Int) (w : World) : Calls Try.prog 38 #[.int .i64 a] w fun e w' => e = .returned (.tuple #[.int .i64 (regF a).1, .int .i64 (regF a).2.1, .int .i64 (regF a).2.2]) ∧ Below w.heap.size w w' := by
  by_cases h : adB a = true
  · have HE : Hid (regF a = (regR a, regK a, 0)) := Lib.hid (by unfold regF; rw [if_pos h])
    have HR := Lib.hid (fun W => l05Region a W (adB_range h).1 (adB_range h).2)
    generalize regF a = r at HE
    generalize regR a = r0 at HE HR
    generalize regK a = r1 at HE HR
    go_enter Try.func38, Try.ntmps38
    go_wp2_with (first | (go_at_call 47; refine (l05At _ _).mono ?_; rintro e w' ⟨rfl, rfl⟩; rw [h]) | (go_at_call 75; refine (HR.out _).mono ?_; rintro e w' ⟨rfl, rfl⟩))
    exact bodyPost_ret (v := .tuple #[.int .i64 r0, .int .i64 r1, .int .i64 0]) (by simp [results, Try.results38, go_sem]) rfl ⟨by rw [HE.out], Below.refl _ _⟩
  · have HE : Hid (regF a = (0, 0, 4)) := Lib.hid (by unfold regF; rw [if_neg h])
    have h' : adB a = false := by simpa using h
    generalize regF a = r at HE
    clear h
    go_enter Try.func38, Try.ntmps38
    go_wp2_with (first | (go_at_call 47; refine (l05At _ _).mono ?_; rintro e w' ⟨rfl, rfl⟩; rw [h']))
    exact bodyPost_ret (v := .tuple #[.int .i64 0, .int .i64 0, .int .i64 4]) (by simp [results, Try.results38, go_sem]) rfl ⟨by rw [HE.out], Below.refl _ _⟩
end Go.Proofs.Ytdanefhfngmipaa
