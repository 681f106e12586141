/- For every Cpu and Cpu, laws.FnExactSameCpu returns true: impl.SameCpu answers as the model spec.SameCpu, every field, leaves its arguments alone, and its result is memory of its own. No condition. -/
import Derived.Test.YtieljgoodmoacaaCpuSame
import Derived.Test.YtieljgoodmoacaaGenCpu
import Derived.Test.YtieljgoodmoacaaGenOpen
import Derived.Test.YtieljgoodmoacaaFactA
import Derived.Test.YtieljgoodmoacaaFactB
import Derived.Test.YtieljgoodmoacaaFactC
import Derived.Test.YtieljgoodmoacaaFactD
import Derived.Deep.RegionHeld3
import Derived.ProofKit
import Derived.OpenShut
import Derived.ShutString
import Derived.ChangeOld
namespace Go.Proofs.Ytieljgoodmoacaa.fnExactSameCpu
open Go.RowKit

set_option maxRecDepth 100000 in
set_option maxHeartbeats 16000000 in
theorem walk (a0vA8 : Option Addr) (a0vc8 : Nat) (a0d0 : Int) (a0d1 : Int) (a0d2 : Int) (a0d3 : Int) (a0d4 : Bool) (a0d5 : Bool) (a0d6 : Bool) (a0d7 : Bool) (a0d8 : List Int) (a1vA8 : Option Addr) (a1vc8 : Nat) (a1d0 : Int) (a1d1 : Int) (a1d2 : Int) (a1d3 : Int) (a1d4 : Bool) (a1d5 : Bool) (a1d6 : Bool) (a1d7 : Bool) (a1d8 : List Int) (w : World) (h0 : RepA w [.slice a0vA8 a0d8.length a0vc8] [Lf.I a0d8]) (f0 : FitA [Lf.I a0d8]) (h1 : RepA w [.slice a1vA8 a1d8.length a1vc8] [Lf.I a1d8]) (f1 : FitA [Lf.I a1d8]) :
    Calls Try.prog 7 #[.agg #[.int .i64 a0d0, .int .i64 a0d1, .int .i64 a0d2, .int .i64 a0d3, .bool a0d4, .bool a0d5, .bool a0d6, .bool a0d7, .slice a0vA8 a0d8.length a0vc8], .agg #[.int .i64 a1d0, .int .i64 a1d1, .int .i64 a1d2, .int .i64 a1d3, .bool a1d4, .bool a1d5, .bool a1d6, .bool a1d7, .slice a1vA8 a1d8.length a1vc8]] w fun e w' => e = .returned (.bool true) ∧ Below w.heap.size w w' := by
  have HSz0 := Lib.hid (fun W (hb : Below w.heap.size w W) l g0 g1 => szCpuA a0vA8 a0vc8 a0d0 a0d1 a0d2 a0d3 a0d4 a0d5 a0d6 a0d7 a0d8 l W (h0.below hb) f0 g0 g1)
  have HTo0 := Lib.hid (fun W (hb : Below w.heap.size w W) (z : szA [Lf.I a0d8] ≤ 1048576) => toCpuA a0vA8 a0vc8 a0d0 a0d1 a0d2 a0d3 a0d4 a0d5 a0d6 a0d7 a0d8 W (h0.below hb) (Nat.le_trans (szA_len _) z))
  have HSz1 := Lib.hid (fun W (hb : Below w.heap.size w W) l g0 g1 => szCpuA a1vA8 a1vc8 a1d0 a1d1 a1d2 a1d3 a1d4 a1d5 a1d6 a1d7 a1d8 l W (h1.below hb) f1 g0 g1)
  have HTo1 := Lib.hid (fun W (hb : Below w.heap.size w W) (z : szA [Lf.I a1d8] ≤ 1048576) => toCpuA a1vA8 a1vc8 a1d0 a1d1 a1d2 a1d3 a1d4 a1d5 a1d6 a1d7 a1d8 W (h1.below hb) (Nat.le_trans (szA_len _) z))
  have HSpec := Lib.hid (fun W (q0vA8 : Option Addr) (q0vc8 : Nat) (q1vA8 : Option Addr) (q1vc8 : Nat) (h0 : RepA W [.slice q0vA8 a0d8.length q0vc8] [Lf.I a0d8]) (c0 : CapA [.slice q0vA8 a0d8.length q0vc8]) (z0 : szA [Lf.I a0d8] ≤ 1048576) (h1 : RepA W [.slice q1vA8 a1d8.length q1vc8] [Lf.I a1d8]) (c1 : CapA [.slice q1vA8 a1d8.length q1vc8]) (z1 : szA [Lf.I a1d8] ≤ 1048576) => specSameCpuA q0vA8 q0vc8 a0d0 a0d1 a0d2 a0d3 a0d4 a0d5 a0d6 a0d7 a0d8 q1vA8 q1vc8 a1d0 a1d1 a1d2 a1d3 a1d4 a1d5 a1d6 a1d7 a1d8 W h0 c0 z0 h1 c1 z1)
  have HImpl := Lib.hid (fun W (q0vA8 : Option Addr) (q0vc8 : Nat) (q1vA8 : Option Addr) (q1vc8 : Nat) (h0 : RepA W [.slice q0vA8 a0d8.length q0vc8] [Lf.I a0d8]) (c0 : CapA [.slice q0vA8 a0d8.length q0vc8]) (z0 : szA [Lf.I a0d8] ≤ 1048576) (h1 : RepA W [.slice q1vA8 a1d8.length q1vc8] [Lf.I a1d8]) (c1 : CapA [.slice q1vA8 a1d8.length q1vc8]) (z1 : szA [Lf.I a1d8] ≤ 1048576) => implSameCpuA q0vA8 q0vc8 a0d0 a0d1 a0d2 a0d3 a0d4 a0d5 a0d6 a0d7 a0d8 q1vA8 q1vc8 a1d0 a1d1 a1d2 a1d3 a1d4 a1d5 a1d6 a1d7 a1d8 W h0 c0 z0 h1 c1 z1)
  generalize sameCp a0d0 a0d1 a0d2 a0d3 a0d4 a0d5 a0d6 a0d7 a0d8 a1d0 a1d1 a1d2 a1d3 a1d4 a1d5 a1d6 a1d7 a1d8 = r0d0 at HSpec HImpl
  have qr0d0 : (r0d0 != r0d0) = false := by simp
  clear h0 f0 h1 f1
  have H0 : Hid (Below w.heap.size w w) := Lib.hid (Below.refl _ _)
  go_enter Try.func7, Try.ntmps7
  obtain ⟨W1, hW1⟩ : ∃ W1, W1 = ((w.alloc (.cells #[.int .i64 a0d0, .int .i64 a0d1, .int .i64 a0d2, .int .i64 a0d3, .bool a0d4, .bool a0d5, .bool a0d6, .bool a0d7, .slice a0vA8 a0d8.length a0vc8] 29)).alloc (.cells #[.int .i64 a1d0, .int .i64 a1d1, .int .i64 a1d2, .int .i64 a1d3, .bool a1d4, .bool a1d5, .bool a1d6, .bool a1d7, .slice a1vA8 a1d8.length a1vc8] 29)) := ⟨_, rfl⟩
  have hba : Below w.heap.size w W1 := by rw [hW1]; exact (((Below.refl _ _).alloc (Nat.le_refl _) _).alloc (by simp; try omega) _)
  have Z2 : Hid (W1.heap.size = w.heap.size + 2) := Lib.hid (by rw [hW1]; simp)
  have B3 : Hid (Box W1 (w.heap.size) 29 #[.int .i64 a0d0, .int .i64 a0d1, .int .i64 a0d2, .int .i64 a0d3, .bool a0d4, .bool a0d5, .bool a0d6, .bool a0d7, .slice a0vA8 a0d8.length a0vc8]) := Lib.hid (by rw [hW1]; exact ((Box.new w 29 #[.int .i64 a0d0, .int .i64 a0d1, .int .i64 a0d2, .int .i64 a0d3, .bool a0d4, .bool a0d5, .bool a0d6, .bool a0d7, .slice a0vA8 a0d8.length a0vc8]).alloc (.cells #[.int .i64 a1d0, .int .i64 a1d1, .int .i64 a1d2, .int .i64 a1d3, .bool a1d4, .bool a1d5, .bool a1d6, .bool a1d7, .slice a1vA8 a1d8.length a1vc8] 29)))
  have B4 : Hid (Box W1 (w.heap.size + 1) 29 #[.int .i64 a1d0, .int .i64 a1d1, .int .i64 a1d2, .int .i64 a1d3, .bool a1d4, .bool a1d5, .bool a1d6, .bool a1d7, .slice a1vA8 a1d8.length a1vc8]) := Lib.hid (by rw [hW1]; simpa using (Box.new (w.alloc (.cells #[.int .i64 a0d0, .int .i64 a0d1, .int .i64 a0d2, .int .i64 a0d3, .bool a0d4, .bool a0d5, .bool a0d6, .bool a0d7, .slice a0vA8 a0d8.length a0vc8] 29)) 29 #[.int .i64 a1d0, .int .i64 a1d1, .int .i64 a1d2, .int .i64 a1d3, .bool a1d4, .bool a1d5, .bool a1d6, .bool a1d7, .slice a1vA8 a1d8.length a1vc8]))
  have H5 := Lib.hid (bt H0.out hba)
  have Z6 : Hid (w.heap.size ≤ W1.heap.size) := Lib.hid hba.size
  clear H0 hba
  have HW1 := Lib.hid hW1
  clear hW1
  go_wp2_with fail
  rw [← HW1.out]
  refine (HSz0.out _ H5.out _ (by omega) (by omega)).mono ?_
  rintro e w7 ⟨hres, hc⟩
  clear HW1
  have F8 := Lib.hid (B3.out.step hc)
  have F9 := Lib.hid (B4.out.step hc)
  have H10 := Lib.hid (bt H5.out hc)
  have Z11 : Hid (W1.heap.size ≤ w7.heap.size) := Lib.hid hc.size
  clear B3 B4 H5 hc
  clear HSz0
  rcases hres with rfl | ⟨rfl, hle0⟩
  · go_wp2
    go_ret
    exact ⟨rfl, H10.out⟩
  have z0 : szA [Lf.I a0d8] ≤ 1048576 := by omega
  generalize hu0 : szA [Lf.I a0d8] = u0 at hle0 ⊢
  clear hu0
  have hp0 : ¬ (1048576 : Int) - (u0 : Int) < 0 := by omega
  have f0 : w7.cell? ⟨w.heap.size + 1, 0, none⟩ = some (.int .i64 a1d0) := F9.out.cell 0 rfl
  have f1 : w7.cell? ⟨w.heap.size + 1, 1, none⟩ = some (.int .i64 a1d1) := F9.out.cell 1 rfl
  have f2 : w7.cell? ⟨w.heap.size + 1, 2, none⟩ = some (.int .i64 a1d2) := F9.out.cell 2 rfl
  have f3 : w7.cell? ⟨w.heap.size + 1, 3, none⟩ = some (.int .i64 a1d3) := F9.out.cell 3 rfl
  have f4 : w7.cell? ⟨w.heap.size + 1, 4, none⟩ = some (.bool a1d4) := F9.out.cell 4 rfl
  have f5 : w7.cell? ⟨w.heap.size + 1, 5, none⟩ = some (.bool a1d5) := F9.out.cell 5 rfl
  have f6 : w7.cell? ⟨w.heap.size + 1, 6, none⟩ = some (.bool a1d6) := F9.out.cell 6 rfl
  have f7 : w7.cell? ⟨w.heap.size + 1, 7, none⟩ = some (.bool a1d7) := F9.out.cell 7 rfl
  have f8 : w7.cell? ⟨w.heap.size + 1, 8, none⟩ = some (.slice a1vA8 a1d8.length a1vc8) := F9.out.cell 8 rfl
  go_wp2_with fail
  refine (HSz1.out _ H10.out _ (by omega) (by omega)).mono ?_
  rintro e w12 ⟨hres, hc⟩
  clear f0 f1 f2 f3 f4 f5 f6 f7 f8
  have F13 := Lib.hid (F8.out.step hc)
  have F14 := Lib.hid (F9.out.step hc)
  have H15 := Lib.hid (bt H10.out hc)
  have Z16 : Hid (w7.heap.size ≤ w12.heap.size) := Lib.hid hc.size
  clear F8 F9 H10 hc
  clear HSz1
  rcases hres with rfl | ⟨rfl, hle1⟩
  · go_wp2
    go_ret
    exact ⟨rfl, H15.out⟩
  have z1 : szA [Lf.I a1d8] ≤ 1048576 := by omega
  generalize hu1 : szA [Lf.I a1d8] = u1 at hle1 ⊢
  clear hu1
  have hp1 : ¬ (1048576 : Int) - (u0 : Int) - (u1 : Int) < 0 := by omega
  have f0 : w12.cell? ⟨w.heap.size, 0, none⟩ = some (.int .i64 a0d0) := F13.out.cell 0 rfl
  have f1 : w12.cell? ⟨w.heap.size, 1, none⟩ = some (.int .i64 a0d1) := F13.out.cell 1 rfl
  have f2 : w12.cell? ⟨w.heap.size, 2, none⟩ = some (.int .i64 a0d2) := F13.out.cell 2 rfl
  have f3 : w12.cell? ⟨w.heap.size, 3, none⟩ = some (.int .i64 a0d3) := F13.out.cell 3 rfl
  have f4 : w12.cell? ⟨w.heap.size, 4, none⟩ = some (.bool a0d4) := F13.out.cell 4 rfl
  have f5 : w12.cell? ⟨w.heap.size, 5, none⟩ = some (.bool a0d5) := F13.out.cell 5 rfl
  have f6 : w12.cell? ⟨w.heap.size, 6, none⟩ = some (.bool a0d6) := F13.out.cell 6 rfl
  have f7 : w12.cell? ⟨w.heap.size, 7, none⟩ = some (.bool a0d7) := F13.out.cell 7 rfl
  have f8 : w12.cell? ⟨w.heap.size, 8, none⟩ = some (.slice a0vA8 a0d8.length a0vc8) := F13.out.cell 8 rfl
  have f9 : w12.cell? ⟨w.heap.size + 1, 0, none⟩ = some (.int .i64 a1d0) := F14.out.cell 0 rfl
  have f10 : w12.cell? ⟨w.heap.size + 1, 1, none⟩ = some (.int .i64 a1d1) := F14.out.cell 1 rfl
  have f11 : w12.cell? ⟨w.heap.size + 1, 2, none⟩ = some (.int .i64 a1d2) := F14.out.cell 2 rfl
  have f12 : w12.cell? ⟨w.heap.size + 1, 3, none⟩ = some (.int .i64 a1d3) := F14.out.cell 3 rfl
  have f13 : w12.cell? ⟨w.heap.size + 1, 4, none⟩ = some (.bool a1d4) := F14.out.cell 4 rfl
  have f14 : w12.cell? ⟨w.heap.size + 1, 5, none⟩ = some (.bool a1d5) := F14.out.cell 5 rfl
  have f15 : w12.cell? ⟨w.heap.size + 1, 6, none⟩ = some (.bool a1d6) := F14.out.cell 6 rfl
  have f16 : w12.cell? ⟨w.heap.size + 1, 7, none⟩ = some (.bool a1d7) := F14.out.cell 7 rfl
  have f17 : w12.cell? ⟨w.heap.size + 1, 8, none⟩ = some (.slice a1vA8 a1d8.length a1vc8) := F14.out.cell 8 rfl
  have HK := Lib.hid (fun W' (hb : Below w12.heap.size w12 W') => And.intro ((hb.cell (cell_lt f0)).trans f0) (And.intro ((hb.cell (cell_lt f1)).trans f1) (And.intro ((hb.cell (cell_lt f2)).trans f2) (And.intro ((hb.cell (cell_lt f3)).trans f3) (And.intro ((hb.cell (cell_lt f4)).trans f4) (And.intro ((hb.cell (cell_lt f5)).trans f5) (And.intro ((hb.cell (cell_lt f6)).trans f6) (And.intro ((hb.cell (cell_lt f7)).trans f7) (And.intro ((hb.cell (cell_lt f8)).trans f8) (And.intro ((hb.cell (cell_lt f9)).trans f9) (And.intro ((hb.cell (cell_lt f10)).trans f10) (And.intro ((hb.cell (cell_lt f11)).trans f11) (And.intro ((hb.cell (cell_lt f12)).trans f12) (And.intro ((hb.cell (cell_lt f13)).trans f13) (And.intro ((hb.cell (cell_lt f14)).trans f14) (And.intro ((hb.cell (cell_lt f15)).trans f15) (And.intro ((hb.cell (cell_lt f16)).trans f16) ((hb.cell (cell_lt f17)).trans f17))))))))))))))))))
  have h6 : Below w12.heap.size w12 w12.drew := (Below.refl _ _).drew
  go_wp2
  go_region_held3 (fun W => W.cell? ⟨w.heap.size, 0, none⟩ = some (.int .i64 a0d0) ∧ W.cell? ⟨w.heap.size, 1, none⟩ = some (.int .i64 a0d1) ∧ W.cell? ⟨w.heap.size, 2, none⟩ = some (.int .i64 a0d2) ∧ W.cell? ⟨w.heap.size, 3, none⟩ = some (.int .i64 a0d3) ∧ W.cell? ⟨w.heap.size, 4, none⟩ = some (.bool a0d4) ∧ W.cell? ⟨w.heap.size, 5, none⟩ = some (.bool a0d5) ∧ W.cell? ⟨w.heap.size, 6, none⟩ = some (.bool a0d6) ∧ W.cell? ⟨w.heap.size, 7, none⟩ = some (.bool a0d7) ∧ W.cell? ⟨w.heap.size, 8, none⟩ = some (.slice a0vA8 a0d8.length a0vc8) ∧ W.cell? ⟨w.heap.size + 1, 0, none⟩ = some (.int .i64 a1d0) ∧ W.cell? ⟨w.heap.size + 1, 1, none⟩ = some (.int .i64 a1d1) ∧ W.cell? ⟨w.heap.size + 1, 2, none⟩ = some (.int .i64 a1d2) ∧ W.cell? ⟨w.heap.size + 1, 3, none⟩ = some (.int .i64 a1d3) ∧ W.cell? ⟨w.heap.size + 1, 4, none⟩ = some (.bool a1d4) ∧ W.cell? ⟨w.heap.size + 1, 5, none⟩ = some (.bool a1d5) ∧ W.cell? ⟨w.heap.size + 1, 6, none⟩ = some (.bool a1d6) ∧ W.cell? ⟨w.heap.size + 1, 7, none⟩ = some (.bool a1d7) ∧ W.cell? ⟨w.heap.size + 1, 8, none⟩ = some (.slice a1vA8 a1d8.length a1vc8))
    (first | exact HK.out _ h6 | exact HK.out _ (bt h6 hbw18) | exact HK.out _ (bt (bt h6 hbw18) hbw20) | exact HK.out _ (bt (bt (bt h6 hbw18) hbw20) hbw21))
    (first | (go_at_call 15; have _t1 := hbw18; refine (HTo1.out _ (bt H15.out (bt h6 hbw18)) z1).mono ?_; rintro e w20 ⟨t19vA8, t19vc8, rfl, Nt19, Kt19, hbw20⟩) | (go_at_call 15; refine (HTo0.out _ H15.out.drew z0).mono ?_; rintro e w18 ⟨t17vA8, t17vc8, rfl, Nt17, Kt17, hbw18⟩) | (go_at_call 26; refine (HSpec.out w20 t17vA8 t17vc8 t19vA8 t19vc8 (Nt17.out.below hbw20).reads Kt17.out z0 Nt19.out.reads Kt19.out z1).mono ?_; rintro e w21 ⟨rfl, hbw21⟩))
  have hc : Below w12.heap.size w12 w21 := bt (bt (bt h6 hbw18) hbw20) hbw21
  have Z22 : Hid (w12.heap.size ≤ w20.heap.size) := Lib.hid (bt (bt h6 hbw18) hbw20).size
  have Z23 : Hid (w20.heap.size ≤ w21.heap.size) := Lib.hid hbw21.size
  have F24 := Lib.hid (F13.out.step hc)
  have F25 := Lib.hid (F14.out.step hc)
  have H26 := Lib.hid (bt H15.out hc)
  have Z27 : Hid (w12.heap.size ≤ w21.heap.size) := Lib.hid hc.size
  clear F13 F14 H15 hc
  clear HK h6 f0 f1 f2 f3 f4 f5 f6 f7 f8 f9 f10 f11 f12 f13 f14 f15 f16 f17 hbw18 hbw20 hbw21 Nt17 Kt17 Nt19 Kt19
  clear HSpec
  have f0 : w21.cell? ⟨w.heap.size, 0, none⟩ = some (.int .i64 a0d0) := F24.out.cell 0 rfl
  have f1 : w21.cell? ⟨w.heap.size, 1, none⟩ = some (.int .i64 a0d1) := F24.out.cell 1 rfl
  have f2 : w21.cell? ⟨w.heap.size, 2, none⟩ = some (.int .i64 a0d2) := F24.out.cell 2 rfl
  have f3 : w21.cell? ⟨w.heap.size, 3, none⟩ = some (.int .i64 a0d3) := F24.out.cell 3 rfl
  have f4 : w21.cell? ⟨w.heap.size, 4, none⟩ = some (.bool a0d4) := F24.out.cell 4 rfl
  have f5 : w21.cell? ⟨w.heap.size, 5, none⟩ = some (.bool a0d5) := F24.out.cell 5 rfl
  have f6 : w21.cell? ⟨w.heap.size, 6, none⟩ = some (.bool a0d6) := F24.out.cell 6 rfl
  have f7 : w21.cell? ⟨w.heap.size, 7, none⟩ = some (.bool a0d7) := F24.out.cell 7 rfl
  have f8 : w21.cell? ⟨w.heap.size, 8, none⟩ = some (.slice a0vA8 a0d8.length a0vc8) := F24.out.cell 8 rfl
  go_wp2_with fail
  refine (HTo0.out _ H26.out z0).mono ?_
  rintro e w28 ⟨x0vA8, x0vc8, rfl, Nx0, Kx0, hc⟩
  clear f0 f1 f2 f3 f4 f5 f6 f7 f8
  have F29 := Lib.hid (F24.out.step hc)
  have F30 := Lib.hid (F25.out.step hc)
  have H31 := Lib.hid (bt H26.out hc)
  have Z32 : Hid (w21.heap.size ≤ w28.heap.size) := Lib.hid hc.size
  clear F24 F25 H26 hc
  obtain ⟨W33, hW33⟩ : ∃ W33, W33 = (w28.alloc (.cells #[.int .i64 a0d0, .int .i64 a0d1, .int .i64 a0d2, .int .i64 a0d3, .bool a0d4, .bool a0d5, .bool a0d6, .bool a0d7, .slice x0vA8 a0d8.length x0vc8] 24)) := ⟨_, rfl⟩
  have hba : Below w28.heap.size w28 W33 := by rw [hW33]; exact ((Below.refl _ _).alloc (Nat.le_refl _) _)
  have Z34 : Hid (W33.heap.size = w28.heap.size + 1) := Lib.hid (by rw [hW33]; simp)
  have B35 : Hid (Box W33 (w28.heap.size) 24 #[.int .i64 a0d0, .int .i64 a0d1, .int .i64 a0d2, .int .i64 a0d3, .bool a0d4, .bool a0d5, .bool a0d6, .bool a0d7, .slice x0vA8 a0d8.length x0vc8]) := Lib.hid (by rw [hW33]; exact (Box.new w28 24 #[.int .i64 a0d0, .int .i64 a0d1, .int .i64 a0d2, .int .i64 a0d3, .bool a0d4, .bool a0d5, .bool a0d6, .bool a0d7, .slice x0vA8 a0d8.length x0vc8]))
  have F36 := Lib.hid (F29.out.step hba)
  have F37 := Lib.hid (F30.out.step hba)
  have F38 := Lib.hid (Nx0.out.below hba)
  have H39 := Lib.hid (bt H31.out hba)
  have Z40 : Hid (w28.heap.size ≤ W33.heap.size) := Lib.hid hba.size
  clear F29 F30 Nx0 H31 hba
  have HW33 := Lib.hid hW33
  clear hW33
  have f0 : W33.cell? ⟨w.heap.size + 1, 0, none⟩ = some (.int .i64 a1d0) := F37.out.cell 0 rfl
  have f1 : W33.cell? ⟨w.heap.size + 1, 1, none⟩ = some (.int .i64 a1d1) := F37.out.cell 1 rfl
  have f2 : W33.cell? ⟨w.heap.size + 1, 2, none⟩ = some (.int .i64 a1d2) := F37.out.cell 2 rfl
  have f3 : W33.cell? ⟨w.heap.size + 1, 3, none⟩ = some (.int .i64 a1d3) := F37.out.cell 3 rfl
  have f4 : W33.cell? ⟨w.heap.size + 1, 4, none⟩ = some (.bool a1d4) := F37.out.cell 4 rfl
  have f5 : W33.cell? ⟨w.heap.size + 1, 5, none⟩ = some (.bool a1d5) := F37.out.cell 5 rfl
  have f6 : W33.cell? ⟨w.heap.size + 1, 6, none⟩ = some (.bool a1d6) := F37.out.cell 6 rfl
  have f7 : W33.cell? ⟨w.heap.size + 1, 7, none⟩ = some (.bool a1d7) := F37.out.cell 7 rfl
  have f8 : W33.cell? ⟨w.heap.size + 1, 8, none⟩ = some (.slice a1vA8 a1d8.length a1vc8) := F37.out.cell 8 rfl
  rw [HW33.out] at f0 f1 f2 f3 f4 f5 f6 f7 f8
  go_wp2_with fail
  rw [← HW33.out]
  refine (HTo1.out _ H39.out z1).mono ?_
  rintro e w41 ⟨x1vA8, x1vc8, rfl, Nx1, Kx1, hc⟩
  clear f0 f1 f2 f3 f4 f5 f6 f7 f8 HW33
  have F42 := Lib.hid (F36.out.step hc)
  have F43 := Lib.hid (F37.out.step hc)
  have F44 := Lib.hid (F38.out.below hc)
  have F45 := Lib.hid (B35.out.step hc)
  have H46 := Lib.hid (bt H39.out hc)
  have Z47 : Hid (W33.heap.size ≤ w41.heap.size) := Lib.hid hc.size
  clear F36 F37 F38 B35 H39 hc
  obtain ⟨W48, hW48⟩ : ∃ W48, W48 = (w41.alloc (.cells #[.int .i64 a1d0, .int .i64 a1d1, .int .i64 a1d2, .int .i64 a1d3, .bool a1d4, .bool a1d5, .bool a1d6, .bool a1d7, .slice x1vA8 a1d8.length x1vc8] 24)) := ⟨_, rfl⟩
  have hba : Below w41.heap.size w41 W48 := by rw [hW48]; exact ((Below.refl _ _).alloc (Nat.le_refl _) _)
  have Z49 : Hid (W48.heap.size = w41.heap.size + 1) := Lib.hid (by rw [hW48]; simp)
  have B50 : Hid (Box W48 (w41.heap.size) 24 #[.int .i64 a1d0, .int .i64 a1d1, .int .i64 a1d2, .int .i64 a1d3, .bool a1d4, .bool a1d5, .bool a1d6, .bool a1d7, .slice x1vA8 a1d8.length x1vc8]) := Lib.hid (by rw [hW48]; exact (Box.new w41 24 #[.int .i64 a1d0, .int .i64 a1d1, .int .i64 a1d2, .int .i64 a1d3, .bool a1d4, .bool a1d5, .bool a1d6, .bool a1d7, .slice x1vA8 a1d8.length x1vc8]))
  have F51 := Lib.hid (F42.out.step hba)
  have F52 := Lib.hid (F43.out.step hba)
  have F53 := Lib.hid (F44.out.below hba)
  have F54 := Lib.hid (F45.out.step hba)
  have F55 := Lib.hid (Nx1.out.below hba)
  have H56 := Lib.hid (bt H46.out hba)
  have Z57 : Hid (w41.heap.size ≤ W48.heap.size) := Lib.hid hba.size
  clear F42 F43 F44 F45 Nx1 H46 hba
  have HW48 := Lib.hid hW48
  clear hW48
  have f0 : W48.cell? ⟨w28.heap.size, 0, none⟩ = some (.int .i64 a0d0) := F54.out.cell 0 rfl
  have f1 : W48.cell? ⟨w28.heap.size, 1, none⟩ = some (.int .i64 a0d1) := F54.out.cell 1 rfl
  have f2 : W48.cell? ⟨w28.heap.size, 2, none⟩ = some (.int .i64 a0d2) := F54.out.cell 2 rfl
  have f3 : W48.cell? ⟨w28.heap.size, 3, none⟩ = some (.int .i64 a0d3) := F54.out.cell 3 rfl
  have f4 : W48.cell? ⟨w28.heap.size, 4, none⟩ = some (.bool a0d4) := F54.out.cell 4 rfl
  have f5 : W48.cell? ⟨w28.heap.size, 5, none⟩ = some (.bool a0d5) := F54.out.cell 5 rfl
  have f6 : W48.cell? ⟨w28.heap.size, 6, none⟩ = some (.bool a0d6) := F54.out.cell 6 rfl
  have f7 : W48.cell? ⟨w28.heap.size, 7, none⟩ = some (.bool a0d7) := F54.out.cell 7 rfl
  have f8 : W48.cell? ⟨w28.heap.size, 8, none⟩ = some (.slice x0vA8 a0d8.length x0vc8) := F54.out.cell 8 rfl
  rw [HW48.out] at f0 f1 f2 f3 f4 f5 f6 f7 f8
  go_wp2_with fail
  rw [← HW48.out]
  refine (HImpl.out W48 x0vA8 x0vc8 x1vA8 x1vc8 F53.out.reads Kx0.out z0 F55.out.reads Kx1.out z1).mono ?_
  rintro e w58 ⟨rfl, hc⟩
  clear f0 f1 f2 f3 f4 f5 f6 f7 f8 HW48
  have F59 := Lib.hid (F51.out.step hc)
  have F60 := Lib.hid (F52.out.step hc)
  have F61 := Lib.hid (F53.out.below hc)
  have F62 := Lib.hid (F54.out.step hc)
  have F63 := Lib.hid (F55.out.below hc)
  have F64 := Lib.hid (B50.out.step hc)
  have H65 := Lib.hid (bt H56.out hc)
  have Z66 : Hid (W48.heap.size ≤ w58.heap.size) := Lib.hid hc.size
  clear F51 F52 F53 F54 F55 B50 H56 hc
  have f0 : w58.cell? ⟨w.heap.size, 0, none⟩ = some (.int .i64 a0d0) := F59.out.cell 0 rfl
  have f1 : w58.cell? ⟨w.heap.size, 1, none⟩ = some (.int .i64 a0d1) := F59.out.cell 1 rfl
  have f2 : w58.cell? ⟨w.heap.size, 2, none⟩ = some (.int .i64 a0d2) := F59.out.cell 2 rfl
  have f3 : w58.cell? ⟨w.heap.size, 3, none⟩ = some (.int .i64 a0d3) := F59.out.cell 3 rfl
  have f4 : w58.cell? ⟨w.heap.size, 4, none⟩ = some (.bool a0d4) := F59.out.cell 4 rfl
  have f5 : w58.cell? ⟨w.heap.size, 5, none⟩ = some (.bool a0d5) := F59.out.cell 5 rfl
  have f6 : w58.cell? ⟨w.heap.size, 6, none⟩ = some (.bool a0d6) := F59.out.cell 6 rfl
  have f7 : w58.cell? ⟨w.heap.size, 7, none⟩ = some (.bool a0d7) := F59.out.cell 7 rfl
  have f8 : w58.cell? ⟨w.heap.size, 8, none⟩ = some (.slice a0vA8 a0d8.length a0vc8) := F59.out.cell 8 rfl
  have f9 : w58.cell? ⟨w28.heap.size, 0, none⟩ = some (.int .i64 a0d0) := F62.out.cell 0 rfl
  have f10 : w58.cell? ⟨w28.heap.size, 1, none⟩ = some (.int .i64 a0d1) := F62.out.cell 1 rfl
  have f11 : w58.cell? ⟨w28.heap.size, 2, none⟩ = some (.int .i64 a0d2) := F62.out.cell 2 rfl
  have f12 : w58.cell? ⟨w28.heap.size, 3, none⟩ = some (.int .i64 a0d3) := F62.out.cell 3 rfl
  have f13 : w58.cell? ⟨w28.heap.size, 4, none⟩ = some (.bool a0d4) := F62.out.cell 4 rfl
  have f14 : w58.cell? ⟨w28.heap.size, 5, none⟩ = some (.bool a0d5) := F62.out.cell 5 rfl
  have f15 : w58.cell? ⟨w28.heap.size, 6, none⟩ = some (.bool a0d6) := F62.out.cell 6 rfl
  have f16 : w58.cell? ⟨w28.heap.size, 7, none⟩ = some (.bool a0d7) := F62.out.cell 7 rfl
  have f17 : w58.cell? ⟨w28.heap.size, 8, none⟩ = some (.slice x0vA8 a0d8.length x0vc8) := F62.out.cell 8 rfl
  have HK := Lib.hid (fun W' (hb : Below w58.heap.size w58 W') => And.intro ((hb.cell (cell_lt f0)).trans f0) (And.intro ((hb.cell (cell_lt f1)).trans f1) (And.intro ((hb.cell (cell_lt f2)).trans f2) (And.intro ((hb.cell (cell_lt f3)).trans f3) (And.intro ((hb.cell (cell_lt f4)).trans f4) (And.intro ((hb.cell (cell_lt f5)).trans f5) (And.intro ((hb.cell (cell_lt f6)).trans f6) (And.intro ((hb.cell (cell_lt f7)).trans f7) (And.intro ((hb.cell (cell_lt f8)).trans f8) (And.intro ((hb.cell (cell_lt f9)).trans f9) (And.intro ((hb.cell (cell_lt f10)).trans f10) (And.intro ((hb.cell (cell_lt f11)).trans f11) (And.intro ((hb.cell (cell_lt f12)).trans f12) (And.intro ((hb.cell (cell_lt f13)).trans f13) (And.intro ((hb.cell (cell_lt f14)).trans f14) (And.intro ((hb.cell (cell_lt f15)).trans f15) (And.intro ((hb.cell (cell_lt f16)).trans f16) ((hb.cell (cell_lt f17)).trans f17))))))))))))))))))
  have h6 : Below w58.heap.size w58 w58.drew := (Below.refl _ _).drew
  go_wp2
  go_region_held3 (fun W => W.cell? ⟨w.heap.size, 0, none⟩ = some (.int .i64 a0d0) ∧ W.cell? ⟨w.heap.size, 1, none⟩ = some (.int .i64 a0d1) ∧ W.cell? ⟨w.heap.size, 2, none⟩ = some (.int .i64 a0d2) ∧ W.cell? ⟨w.heap.size, 3, none⟩ = some (.int .i64 a0d3) ∧ W.cell? ⟨w.heap.size, 4, none⟩ = some (.bool a0d4) ∧ W.cell? ⟨w.heap.size, 5, none⟩ = some (.bool a0d5) ∧ W.cell? ⟨w.heap.size, 6, none⟩ = some (.bool a0d6) ∧ W.cell? ⟨w.heap.size, 7, none⟩ = some (.bool a0d7) ∧ W.cell? ⟨w.heap.size, 8, none⟩ = some (.slice a0vA8 a0d8.length a0vc8) ∧ W.cell? ⟨w28.heap.size, 0, none⟩ = some (.int .i64 a0d0) ∧ W.cell? ⟨w28.heap.size, 1, none⟩ = some (.int .i64 a0d1) ∧ W.cell? ⟨w28.heap.size, 2, none⟩ = some (.int .i64 a0d2) ∧ W.cell? ⟨w28.heap.size, 3, none⟩ = some (.int .i64 a0d3) ∧ W.cell? ⟨w28.heap.size, 4, none⟩ = some (.bool a0d4) ∧ W.cell? ⟨w28.heap.size, 5, none⟩ = some (.bool a0d5) ∧ W.cell? ⟨w28.heap.size, 6, none⟩ = some (.bool a0d6) ∧ W.cell? ⟨w28.heap.size, 7, none⟩ = some (.bool a0d7) ∧ W.cell? ⟨w28.heap.size, 8, none⟩ = some (.slice x0vA8 a0d8.length x0vc8))
    (first | exact HK.out _ h6 | exact HK.out _ (bt h6 hba) | exact HK.out _ (bt (bt h6 hba) hbb))
    (first | (go_at_call 15; refine (HTo0.out _ H65.out.drew z0).mono ?_; rintro e w68 ⟨t67vA8, t67vc8, rfl, Nt67, Kt67, hba⟩) | (go_at_call 10; refine (eqCpuA x0vA8 x0vc8 t67vA8 t67vc8 a0d0 a0d1 a0d2 a0d3 a0d4 a0d5 a0d6 a0d7 a0d8 w68 (F61.out.below (bt h6 hba)).reads Nt67.out.reads (Nat.le_trans (Nat.le_trans (szA_len _) z0) (by unfold maxLen; omega))).mono ?_; rintro e w69 ⟨rfl, hbb⟩))
  have hc : Below w58.heap.size w58 w69 := bt (bt h6 hba) hbb
  have F70 := Lib.hid (F59.out.step hc)
  have F71 := Lib.hid (F60.out.step hc)
  have F72 := Lib.hid (F61.out.below hc)
  have F73 := Lib.hid (F62.out.step hc)
  have F74 := Lib.hid (F63.out.below hc)
  have F75 := Lib.hid (F64.out.step hc)
  have H76 := Lib.hid (bt H65.out hc)
  have Z77 : Hid (w58.heap.size ≤ w69.heap.size) := Lib.hid hc.size
  clear F59 F60 F61 F62 F63 F64 H65 hc
  clear HK h6 hba hbb Nt67 Kt67 f0 f1 f2 f3 f4 f5 f6 f7 f8 f9 f10 f11 f12 f13 f14 f15 f16 f17
  have f0 : w69.cell? ⟨w.heap.size + 1, 0, none⟩ = some (.int .i64 a1d0) := F71.out.cell 0 rfl
  have f1 : w69.cell? ⟨w.heap.size + 1, 1, none⟩ = some (.int .i64 a1d1) := F71.out.cell 1 rfl
  have f2 : w69.cell? ⟨w.heap.size + 1, 2, none⟩ = some (.int .i64 a1d2) := F71.out.cell 2 rfl
  have f3 : w69.cell? ⟨w.heap.size + 1, 3, none⟩ = some (.int .i64 a1d3) := F71.out.cell 3 rfl
  have f4 : w69.cell? ⟨w.heap.size + 1, 4, none⟩ = some (.bool a1d4) := F71.out.cell 4 rfl
  have f5 : w69.cell? ⟨w.heap.size + 1, 5, none⟩ = some (.bool a1d5) := F71.out.cell 5 rfl
  have f6 : w69.cell? ⟨w.heap.size + 1, 6, none⟩ = some (.bool a1d6) := F71.out.cell 6 rfl
  have f7 : w69.cell? ⟨w.heap.size + 1, 7, none⟩ = some (.bool a1d7) := F71.out.cell 7 rfl
  have f8 : w69.cell? ⟨w.heap.size + 1, 8, none⟩ = some (.slice a1vA8 a1d8.length a1vc8) := F71.out.cell 8 rfl
  have f9 : w69.cell? ⟨w41.heap.size, 0, none⟩ = some (.int .i64 a1d0) := F75.out.cell 0 rfl
  have f10 : w69.cell? ⟨w41.heap.size, 1, none⟩ = some (.int .i64 a1d1) := F75.out.cell 1 rfl
  have f11 : w69.cell? ⟨w41.heap.size, 2, none⟩ = some (.int .i64 a1d2) := F75.out.cell 2 rfl
  have f12 : w69.cell? ⟨w41.heap.size, 3, none⟩ = some (.int .i64 a1d3) := F75.out.cell 3 rfl
  have f13 : w69.cell? ⟨w41.heap.size, 4, none⟩ = some (.bool a1d4) := F75.out.cell 4 rfl
  have f14 : w69.cell? ⟨w41.heap.size, 5, none⟩ = some (.bool a1d5) := F75.out.cell 5 rfl
  have f15 : w69.cell? ⟨w41.heap.size, 6, none⟩ = some (.bool a1d6) := F75.out.cell 6 rfl
  have f16 : w69.cell? ⟨w41.heap.size, 7, none⟩ = some (.bool a1d7) := F75.out.cell 7 rfl
  have f17 : w69.cell? ⟨w41.heap.size, 8, none⟩ = some (.slice x1vA8 a1d8.length x1vc8) := F75.out.cell 8 rfl
  have HK := Lib.hid (fun W' (hb : Below w69.heap.size w69 W') => And.intro ((hb.cell (cell_lt f0)).trans f0) (And.intro ((hb.cell (cell_lt f1)).trans f1) (And.intro ((hb.cell (cell_lt f2)).trans f2) (And.intro ((hb.cell (cell_lt f3)).trans f3) (And.intro ((hb.cell (cell_lt f4)).trans f4) (And.intro ((hb.cell (cell_lt f5)).trans f5) (And.intro ((hb.cell (cell_lt f6)).trans f6) (And.intro ((hb.cell (cell_lt f7)).trans f7) (And.intro ((hb.cell (cell_lt f8)).trans f8) (And.intro ((hb.cell (cell_lt f9)).trans f9) (And.intro ((hb.cell (cell_lt f10)).trans f10) (And.intro ((hb.cell (cell_lt f11)).trans f11) (And.intro ((hb.cell (cell_lt f12)).trans f12) (And.intro ((hb.cell (cell_lt f13)).trans f13) (And.intro ((hb.cell (cell_lt f14)).trans f14) (And.intro ((hb.cell (cell_lt f15)).trans f15) (And.intro ((hb.cell (cell_lt f16)).trans f16) ((hb.cell (cell_lt f17)).trans f17))))))))))))))))))
  have h6 : Below w69.heap.size w69 w69.drew := (Below.refl _ _).drew
  go_wp2
  go_region_held3 (fun W => W.cell? ⟨w.heap.size + 1, 0, none⟩ = some (.int .i64 a1d0) ∧ W.cell? ⟨w.heap.size + 1, 1, none⟩ = some (.int .i64 a1d1) ∧ W.cell? ⟨w.heap.size + 1, 2, none⟩ = some (.int .i64 a1d2) ∧ W.cell? ⟨w.heap.size + 1, 3, none⟩ = some (.int .i64 a1d3) ∧ W.cell? ⟨w.heap.size + 1, 4, none⟩ = some (.bool a1d4) ∧ W.cell? ⟨w.heap.size + 1, 5, none⟩ = some (.bool a1d5) ∧ W.cell? ⟨w.heap.size + 1, 6, none⟩ = some (.bool a1d6) ∧ W.cell? ⟨w.heap.size + 1, 7, none⟩ = some (.bool a1d7) ∧ W.cell? ⟨w.heap.size + 1, 8, none⟩ = some (.slice a1vA8 a1d8.length a1vc8) ∧ W.cell? ⟨w41.heap.size, 0, none⟩ = some (.int .i64 a1d0) ∧ W.cell? ⟨w41.heap.size, 1, none⟩ = some (.int .i64 a1d1) ∧ W.cell? ⟨w41.heap.size, 2, none⟩ = some (.int .i64 a1d2) ∧ W.cell? ⟨w41.heap.size, 3, none⟩ = some (.int .i64 a1d3) ∧ W.cell? ⟨w41.heap.size, 4, none⟩ = some (.bool a1d4) ∧ W.cell? ⟨w41.heap.size, 5, none⟩ = some (.bool a1d5) ∧ W.cell? ⟨w41.heap.size, 6, none⟩ = some (.bool a1d6) ∧ W.cell? ⟨w41.heap.size, 7, none⟩ = some (.bool a1d7) ∧ W.cell? ⟨w41.heap.size, 8, none⟩ = some (.slice x1vA8 a1d8.length x1vc8))
    (first | exact HK.out _ h6 | exact HK.out _ (bt h6 hba) | exact HK.out _ (bt (bt h6 hba) hbb))
    (first | (go_at_call 15; refine (HTo1.out _ H76.out.drew z1).mono ?_; rintro e w79 ⟨t78vA8, t78vc8, rfl, Nt78, Kt78, hba⟩) | (go_at_call 10; refine (eqCpuA x1vA8 x1vc8 t78vA8 t78vc8 a1d0 a1d1 a1d2 a1d3 a1d4 a1d5 a1d6 a1d7 a1d8 w79 (F74.out.below (bt h6 hba)).reads Nt78.out.reads (Nat.le_trans (Nat.le_trans (szA_len _) z1) (by unfold maxLen; omega))).mono ?_; rintro e w80 ⟨rfl, hbb⟩))
  have hc : Below w69.heap.size w69 w80 := bt (bt h6 hba) hbb
  have F81 := Lib.hid (F70.out.step hc)
  have F82 := Lib.hid (F71.out.step hc)
  have F83 := Lib.hid (F72.out.below hc)
  have F84 := Lib.hid (F73.out.step hc)
  have F85 := Lib.hid (F74.out.below hc)
  have F86 := Lib.hid (F75.out.step hc)
  have H87 := Lib.hid (bt H76.out hc)
  have Z88 : Hid (w69.heap.size ≤ w80.heap.size) := Lib.hid hc.size
  clear F70 F71 F72 F73 F74 F75 H76 hc
  clear HK h6 hba hbb Nt78 Kt78 f0 f1 f2 f3 f4 f5 f6 f7 f8 f9 f10 f11 f12 f13 f14 f15 f16 f17
  go_wp2
  go_ret
  exact ⟨rfl, H87.out⟩

/-! The row's step. -/
open Go.ChangeShapes Go.WideShapes Go.ChangeAt
open Go.ChangeMaps (open_string shut_string)
set_option maxRecDepth 100000 in
theorem own : ownKnob Try.prog.godebug = none := by kernel_rfl
set_option maxRecDepth 100000 in
theorem laidOut : laidOutB Try.prog = true := factLaid
set_option maxRecDepth 100000 in
theorem lifted (os : Os) (started : os.Started) (H : Type) (enc : TypeId × Value → H) :
    ReturnsInHanded {} Try.checked os 7 .any (Rows.fnExactSameCpuSpec.pre6 enc Try.prog Try.f7 Rows.fnExactSameCpuRow.domain false) (Rows.fnExactSameCpuSpec.post enc Try.prog Try.f7 false true false false) := by
  refine returnsInHanded_of_change (C := Try.checked) own started (by kernel_rfl) Try.func7
    (ChangeSpec.witness6 (enc := enc) (C := Try.checked) false ⟨#[], #[.agg #[.int .i64 0, .int .i64 0, .int .i64 0, .int .i64 0, .bool false, .bool false, .bool false, .bool false, .slice none 0 0], .agg #[.int .i64 0, .int .i64 0, .int .i64 0, .int .i64 0, .bool false, .bool false, .bool false, .bool false, .slice none 0 0]], []⟩ 8 (by kernel_rfl) (by kernel_rfl) (by kernel_rfl) (by kernel_rfl)) ?_
  intro W base args ds gs before hval0 hW hcnd _
  have hval : ∀ (j : Nat) t v, Try.f7.params[j]? = some t → args[j]? = some v → Value.okWide Try.prog W .any base t v := hval0
  have hW' := hW
  obtain ⟨p, q, hA0, hV, rfl, hfz, hnd⟩ := hW
  have hA : DataW.TrodAll enc Try.prog W 0 (fun _ => true) true Try.f7.params.toList args.toList ds p := hA0
  rw [Try.params7] at hA hval
  obtain ⟨v0, vs0, d0, ds0, p0, q0, hargs, rfl, rfl, h0, r0⟩ := trodAll_cons hA
  obtain ⟨v1, vs1, d1, ds1, p1, q1, rfl, rfl, rfl, h1, r1⟩ := trodAll_cons r0
  obtain ⟨rfl, rfl, rfl⟩ := trodAll_nil r1
  obtain rfl : args = #[v0, v1] := by cases args; simp_all
  obtain ⟨rfl, rfl⟩ := trodVars_none hV
  have k0 := h0
  have lt0 : ∀ x ∈ p0, x.block < W.heap.size := by obtain ⟨m, hm⟩ := k0; exact DataW.trod_lt m _ _ _ hm
  obtain ⟨a0vA8, a0vc8, a0d0, a0d1, a0d2, a0d3, a0d4, a0d5, a0d6, a0d7, a0d8, rfl, R0, G0⟩ := openCpu (hval 0 29 v0 rfl rfl) h0
  have k1 := h1
  have lt1 : ∀ x ∈ p1, x.block < W.heap.size := by obtain ⟨m, hm⟩ := k1; exact DataW.trod_lt m _ _ _ hm
  obtain ⟨a1vA8, a1vc8, a1d0, a1d1, a1d2, a1d3, a1d4, a1d5, a1d6, a1d7, a1d8, rfl, R1, G1⟩ := openCpu (hval 1 29 v1 rfl rfl) h1
  clear hA0 hval0
  refine (walk a0vA8 a0vc8 a0d0 a0d1 a0d2 a0d3 a0d4 a0d5 a0d6 a0d7 a0d8 a1vA8 a1vc8 a1d0 a1d1 a1d2 a1d3 a1d4 a1d5 a1d6 a1d7 a1d8 W R0 G0 R1 G1).mono fun e W' ⟨he, bel⟩ => ?_
  subst he
  exact ⟨_, rfl, _, _, _, [], _, [], hW', trodAll_mk1 (shut_bool Try.underlying4 _), (trodAll_cons_mk (Below.trod laidOut (by kernel_rfl) (of_decide_eq_true (by kernel_rfl)) k0 bel lt0) (trodAll_cons_mk (Below.trod laidOut (by kernel_rfl) (of_decide_eq_true (by kernel_rfl)) k1 bel lt1) trodAll_mk0)), rfl, bel.frame _, fun h => by cases h⟩

theorem k0 : (Rows.fnExactSameCpuRow.wf (OpenSpec.ofChange Rows.fnExactSameCpuSpec)) = true := by kernel_rfl
set_option maxRecDepth 100000 in
theorem k3 : (Try.f7.params.all (Try.prog.readableRec ·)) = true := by kernel_rfl
set_option maxRecDepth 100000 in
theorem k4 : (namedTie Try.prog Rows.fnExactSameCpuRow.named Rows.fnExactSameCpuSpec.vars) = true := by kernel_rfl
theorem k5 : ((Rows.fnExactSameCpuRow.stops == [])) = true := by kernel_rfl
set_option maxRecDepth 100000 in
theorem k6 : ((Try.prog.stops == [])) = true := by kernel_rfl
theorem k7 : ((Rows.fnExactSameCpuRow.knobs == [])) = true := by kernel_rfl
set_option maxRecDepth 100000 in
theorem k8 : ((Try.prog.stopKnobs == [])) = true := by kernel_rfl
set_option maxRecDepth 100000 in
theorem k9 : ((Rows.fnExactSameCpuRow.inPlace == Try.prog.inPlace 7)) = true := by kernel_rfl
set_option maxRecDepth 100000 in
theorem k10 : ((Rows.fnExactSameCpuRow.unfollowed == Try.prog.unfollowed 7)) = true := by kernel_rfl
set_option maxRecDepth 100000 in
theorem k11 : ((Rows.fnExactSameCpuRow.recurses == Try.prog.recurses 7)) = true := by kernel_rfl
set_option maxRecDepth 100000 in
theorem k12 : ((Rows.fnExactSameCpuRow.named == Try.prog.varsNamed 7)) = true := by kernel_rfl
set_option maxRecDepth 100000 in
theorem k13 : ((Rows.fnExactSameCpuRow.maps == (Try.f7.params.toList ++ Rows.fnExactSameCpuSpec.plain.varTypes Try.prog).any (Try.prog.mapsRec ·))) = true := by kernel_rfl
set_option maxRecDepth 100000 in
theorem k14 : ((Rows.fnExactSameCpuRow.ifaces == (Try.f7.params.toList ++ Rows.fnExactSameCpuSpec.plain.varTypes Try.prog).any (Try.prog.ifacesRec ·))) = true := by kernel_rfl
set_option maxRecDepth 100000 in
theorem k15 : ((Rows.fnExactSameCpuRow.mapsOut == Try.prog.mapsAmong Try.f7.resultTypes.toList)) = true := by kernel_rfl
set_option maxRecDepth 100000 in
theorem k16 : ((Rows.fnExactSameCpuRow.loops == (Try.f7.params.toList ++ Rows.fnExactSameCpuSpec.plain.varTypes Try.prog).any (Try.prog.loopsFrom ·))) = true := by kernel_rfl
set_option maxRecDepth 100000 in
theorem k17 : ((Rows.fnExactSameCpuRow.wideKeys == (Try.f7.params.toList ++ Rows.fnExactSameCpuSpec.plain.varTypes Try.prog ++ Try.f7.resultTypes.toList).any (Try.prog.wideKeysFrom ·))) = true := by kernel_rfl
set_option maxRecDepth 100000 in
theorem k18 : (Rows.fnExactSameCpuSpec.vars.all (Try.prog.varReadable ·)) = true := by kernel_rfl
set_option maxRecDepth 100000 in
theorem k19 : (Try.f7.resultTypes.all (fun t => Try.prog.readableRec t && decide (t < Try.prog.types.size))) = true := by kernel_rfl
set_option maxRecDepth 100000 in
theorem k20 : ((Rows.fnExactSameCpuRow.ifacesOut == Try.f7.resultTypes.toList.any (Try.prog.ifacesRec ·))) = true := by kernel_rfl
set_option maxRecDepth 100000 in
theorem k21 : ((Rows.fnExactSameCpuRow.loopsOut == Try.f7.resultTypes.toList.any (Try.prog.loopsFrom ·))) = true := by kernel_rfl
set_option maxRecDepth 100000 in
theorem k22 : ((Rows.fnExactSameCpuRow.plainKeys == Try.prog.plainKeys)) = true := by kernel_rfl
theorem k23 : (Rows.fnExactSameCpuRow.shortTexts.isNone) = true := by kernel_rfl
set_option maxRecDepth 100000 in
theorem k28 : ((Rows.fnExactSameCpuRow.kinds == (if Rows.fnExactSameCpuRow.domain.isEmpty then [] else Try.f7.params.toList.map fun t => match Try.prog.underlying t with | some (.int k) => some k | _ => none))) = true := by kernel_rfl
theorem k29 : ((Rows.fnExactSameCpuRow.pinned == Rows.fnExactSameCpuRow.pinnedBy)) = true := by kernel_rfl
set_option maxRecDepth 100000 in
theorem k30 : ((Rows.fnExactSameCpuRow.veiled == (Try.f7.params.toList ++ Rows.fnExactSameCpuSpec.plain.varTypes Try.prog ++ Try.f7.resultTypes.toList).any (Try.prog.veiledRec ·))) = true := by kernel_rfl
set_option maxRecDepth 100000 in
theorem k31 : (Rows.fnExactSameCpuRow.veiledFits Try.prog Try.f7.params.toList (Try.f7.params.toList ++ Rows.fnExactSameCpuSpec.plain.varTypes Try.prog ++ Try.f7.resultTypes.toList)) = true := by kernel_rfl
set_option maxRecDepth 100000 in
theorem facts : joinedFacts Try.prog 7 Try.f7 Rows.fnExactSameCpuSpec Rows.fnExactSameCpuRow = true := (and_mk (and_mk (and_mk (and_mk (and_mk (and_mk (and_mk (and_mk (and_mk (and_mk (and_mk (and_mk (and_mk (and_mk (and_mk (and_mk (and_mk (and_mk (and_mk (and_mk (and_mk (and_mk (and_mk (and_mk (and_mk (and_mk (and_mk (and_mk (and_mk (and_mk (and_mk k0 factLaid) factRowed) k3) k4) k5) k6) k7) k8) k9) k10) k11) k12) k13) k14) k15) k16) k17) k18) k19) k20) k21) k22) k23) factHeard) factEnter) factLift) factMake) k28) k29) k30) k31)
set_option maxRecDepth 100000 in
theorem named : Try.prog.funcNamed Rows.fnExactSameCpuRow.func = some 7 := by kernel_rfl
set_option maxRecDepth 100000 in
theorem inst : Try.f7.isInstance Try.prog Rows.fnExactSameCpuRow.origin Rows.fnExactSameCpuRow.targs := of_decide_eq_true (by kernel_rfl)
set_option maxRecDepth 100000 in
theorem over : Rows.fnExactSameCpuRow.holds Try.pinned (OpenSpec.ofChange Rows.fnExactSameCpuSpec) :=
  OpenClaim.holds_of_wide 7 Try.f7 rfl rfl rfl rfl rfl rfl rfl ⟨rfl, rfl, rfl, rfl, rfl⟩ rfl rfl rfl rfl rfl named Try.func7 facts
    inst (by unfold Func.isWrapper; first | (rw [if_pos (by decide +kernel)]; kernel_rfl) | (rw [if_neg (by decide +kernel)]; exact ⟨rfl, rfl⟩))
    (fun os started H enc _ => lifted os started H enc)
theorem proved : Rows.FnExactSameCpuSaid := over
#print axioms proved
end Go.Proofs.Ytieljgoodmoacaa.fnExactSameCpu
