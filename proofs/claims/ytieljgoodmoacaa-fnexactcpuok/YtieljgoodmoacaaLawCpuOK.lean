/- For every Cpu, laws.FnExactCpuOK returns true: impl.CpuOK answers as the model spec.CpuOK, every field, leaves its arguments alone, and its result is memory of its own. No condition. -/
import Derived.Test.YtieljgoodmoacaaCpuOk
import Derived.Test.YtieljgoodmoacaaGenCpu
import Derived.Test.YtieljgoodmoacaaGenOpen
import Derived.Test.YtieljgoodmoacaaFactA
import Derived.Test.YtieljgoodmoacaaFactB
import Derived.Test.YtieljgoodmoacaaFactC
import Derived.Test.YtieljgoodmoacaaFactD
import Derived.Deep.RegionHeld3
import Derived.ProofKit
import Derived.OpenShut
import Derived.ShutString
import Derived.ChangeOld
namespace Go.Proofs.Ytieljgoodmoacaa.fnExactCpuOK
open Go.RowKit

set_option maxRecDepth 100000 in
set_option maxHeartbeats 16000000 in
theorem walk (a0vA8 : Option Addr) (a0vc8 : Nat) (a0d0 : Int) (a0d1 : Int) (a0d2 : Int) (a0d3 : Int) (a0d4 : Bool) (a0d5 : Bool) (a0d6 : Bool) (a0d7 : Bool) (a0d8 : List Int) (w : World) (h0 : RepA w [.slice a0vA8 a0d8.length a0vc8] [Lf.I a0d8]) (f0 : FitA [Lf.I a0d8]) :
    Calls Try.prog 4 #[.agg #[.int .i64 a0d0, .int .i64 a0d1, .int .i64 a0d2, .int .i64 a0d3, .bool a0d4, .bool a0d5, .bool a0d6, .bool a0d7, .slice a0vA8 a0d8.length a0vc8]] w fun e w' => e = .returned (.bool true) ∧ Below w.heap.size w w' := by
  have HSz0 := Lib.hid (fun W (hb : Below w.heap.size w W) l g0 g1 => szCpuA a0vA8 a0vc8 a0d0 a0d1 a0d2 a0d3 a0d4 a0d5 a0d6 a0d7 a0d8 l W (h0.below hb) f0 g0 g1)
  have HTo0 := Lib.hid (fun W (hb : Below w.heap.size w W) (z : szA [Lf.I a0d8] ≤ 1048576) => toCpuA a0vA8 a0vc8 a0d0 a0d1 a0d2 a0d3 a0d4 a0d5 a0d6 a0d7 a0d8 W (h0.below hb) (Nat.le_trans (szA_len _) z))
  have HSpec := Lib.hid (fun W (q0vA8 : Option Addr) (q0vc8 : Nat) (h0 : RepA W [.slice q0vA8 a0d8.length q0vc8] [Lf.I a0d8]) (c0 : CapA [.slice q0vA8 a0d8.length q0vc8]) (z0 : szA [Lf.I a0d8] ≤ 1048576) => specCpuOKA q0vA8 q0vc8 a0d0 a0d1 a0d2 a0d3 a0d4 a0d5 a0d6 a0d7 a0d8 W h0 c0 z0)
  have HImpl := Lib.hid (fun W (q0vA8 : Option Addr) (q0vc8 : Nat) (h0 : RepA W [.slice q0vA8 a0d8.length q0vc8] [Lf.I a0d8]) (c0 : CapA [.slice q0vA8 a0d8.length q0vc8]) (z0 : szA [Lf.I a0d8] ≤ 1048576) => implCpuOKA q0vA8 q0vc8 a0d0 a0d1 a0d2 a0d3 a0d4 a0d5 a0d6 a0d7 a0d8 W h0 c0 z0)
  generalize okCpu a0d0 a0d1 a0d2 a0d3 a0d8 = r0d0 at HSpec HImpl
  have qr0d0 : (r0d0 != r0d0) = false := by simp
  clear h0 f0
  have H0 : Hid (Below w.heap.size w w) := Lib.hid (Below.refl _ _)
  go_enter Try.func4, Try.ntmps4
  obtain ⟨W1, hW1⟩ : ∃ W1, W1 = (w.alloc (.cells #[.int .i64 a0d0, .int .i64 a0d1, .int .i64 a0d2, .int .i64 a0d3, .bool a0d4, .bool a0d5, .bool a0d6, .bool a0d7, .slice a0vA8 a0d8.length a0vc8] 29)) := ⟨_, rfl⟩
  have hba : Below w.heap.size w W1 := by rw [hW1]; exact ((Below.refl _ _).alloc (Nat.le_refl _) _)
  have Z2 : Hid (W1.heap.size = w.heap.size + 1) := Lib.hid (by rw [hW1]; simp)
  have B3 : Hid (Box W1 (w.heap.size) 29 #[.int .i64 a0d0, .int .i64 a0d1, .int .i64 a0d2, .int .i64 a0d3, .bool a0d4, .bool a0d5, .bool a0d6, .bool a0d7, .slice a0vA8 a0d8.length a0vc8]) := Lib.hid (by rw [hW1]; exact (Box.new w 29 #[.int .i64 a0d0, .int .i64 a0d1, .int .i64 a0d2, .int .i64 a0d3, .bool a0d4, .bool a0d5, .bool a0d6, .bool a0d7, .slice a0vA8 a0d8.length a0vc8]))
  have H4 := Lib.hid (bt H0.out hba)
  have Z5 : Hid (w.heap.size ≤ W1.heap.size) := Lib.hid hba.size
  clear H0 hba
  have HW1 := Lib.hid hW1
  clear hW1
  go_wp2_with fail
  rw [← HW1.out]
  refine (HSz0.out _ H4.out _ (by omega) (by omega)).mono ?_
  rintro e w6 ⟨hres, hc⟩
  clear HW1
  have F7 := Lib.hid (B3.out.step hc)
  have H8 := Lib.hid (bt H4.out hc)
  have Z9 : Hid (W1.heap.size ≤ w6.heap.size) := Lib.hid hc.size
  clear B3 H4 hc
  clear HSz0
  rcases hres with rfl | ⟨rfl, hle0⟩
  · go_wp2
    go_ret
    exact ⟨rfl, H8.out⟩
  have z0 : szA [Lf.I a0d8] ≤ 1048576 := by omega
  generalize hu0 : szA [Lf.I a0d8] = u0 at hle0 ⊢
  clear hu0
  have hp0 : ¬ (1048576 : Int) - (u0 : Int) < 0 := by omega
  have f0 : w6.cell? ⟨w.heap.size, 0, none⟩ = some (.int .i64 a0d0) := F7.out.cell 0 rfl
  have f1 : w6.cell? ⟨w.heap.size, 1, none⟩ = some (.int .i64 a0d1) := F7.out.cell 1 rfl
  have f2 : w6.cell? ⟨w.heap.size, 2, none⟩ = some (.int .i64 a0d2) := F7.out.cell 2 rfl
  have f3 : w6.cell? ⟨w.heap.size, 3, none⟩ = some (.int .i64 a0d3) := F7.out.cell 3 rfl
  have f4 : w6.cell? ⟨w.heap.size, 4, none⟩ = some (.bool a0d4) := F7.out.cell 4 rfl
  have f5 : w6.cell? ⟨w.heap.size, 5, none⟩ = some (.bool a0d5) := F7.out.cell 5 rfl
  have f6 : w6.cell? ⟨w.heap.size, 6, none⟩ = some (.bool a0d6) := F7.out.cell 6 rfl
  have f7 : w6.cell? ⟨w.heap.size, 7, none⟩ = some (.bool a0d7) := F7.out.cell 7 rfl
  have f8 : w6.cell? ⟨w.heap.size, 8, none⟩ = some (.slice a0vA8 a0d8.length a0vc8) := F7.out.cell 8 rfl
  go_wp2_with fail
  refine (HTo0.out _ H8.out z0).mono ?_
  rintro e w11 ⟨t10vA8, t10vc8, rfl, Nt10, Kt10, hc⟩
  clear f0 f1 f2 f3 f4 f5 f6 f7 f8
  have F12 := Lib.hid (F7.out.step hc)
  have H13 := Lib.hid (bt H8.out hc)
  have Z14 : Hid (w6.heap.size ≤ w11.heap.size) := Lib.hid hc.size
  clear F7 H8 hc
  go_wp2_with fail
  refine (HSpec.out w11 t10vA8 t10vc8 Nt10.out.reads Kt10.out z0).mono ?_
  rintro e w15 ⟨rfl, hc⟩
  have F16 := Lib.hid (F12.out.step hc)
  have F17 := Lib.hid (Nt10.out.below hc)
  have H18 := Lib.hid (bt H13.out hc)
  have Z19 : Hid (w11.heap.size ≤ w15.heap.size) := Lib.hid hc.size
  clear F12 Nt10 H13 hc
  clear F17 Kt10
  clear HSpec
  have f0 : w15.cell? ⟨w.heap.size, 0, none⟩ = some (.int .i64 a0d0) := F16.out.cell 0 rfl
  have f1 : w15.cell? ⟨w.heap.size, 1, none⟩ = some (.int .i64 a0d1) := F16.out.cell 1 rfl
  have f2 : w15.cell? ⟨w.heap.size, 2, none⟩ = some (.int .i64 a0d2) := F16.out.cell 2 rfl
  have f3 : w15.cell? ⟨w.heap.size, 3, none⟩ = some (.int .i64 a0d3) := F16.out.cell 3 rfl
  have f4 : w15.cell? ⟨w.heap.size, 4, none⟩ = some (.bool a0d4) := F16.out.cell 4 rfl
  have f5 : w15.cell? ⟨w.heap.size, 5, none⟩ = some (.bool a0d5) := F16.out.cell 5 rfl
  have f6 : w15.cell? ⟨w.heap.size, 6, none⟩ = some (.bool a0d6) := F16.out.cell 6 rfl
  have f7 : w15.cell? ⟨w.heap.size, 7, none⟩ = some (.bool a0d7) := F16.out.cell 7 rfl
  have f8 : w15.cell? ⟨w.heap.size, 8, none⟩ = some (.slice a0vA8 a0d8.length a0vc8) := F16.out.cell 8 rfl
  go_wp2_with fail
  refine (HTo0.out _ H18.out z0).mono ?_
  rintro e w20 ⟨x0vA8, x0vc8, rfl, Nx0, Kx0, hc⟩
  clear f0 f1 f2 f3 f4 f5 f6 f7 f8
  have F21 := Lib.hid (F16.out.step hc)
  have H22 := Lib.hid (bt H18.out hc)
  have Z23 : Hid (w15.heap.size ≤ w20.heap.size) := Lib.hid hc.size
  clear F16 H18 hc
  obtain ⟨W24, hW24⟩ : ∃ W24, W24 = (w20.alloc (.cells #[.int .i64 a0d0, .int .i64 a0d1, .int .i64 a0d2, .int .i64 a0d3, .bool a0d4, .bool a0d5, .bool a0d6, .bool a0d7, .slice x0vA8 a0d8.length x0vc8] 24)) := ⟨_, rfl⟩
  have hba : Below w20.heap.size w20 W24 := by rw [hW24]; exact ((Below.refl _ _).alloc (Nat.le_refl _) _)
  have Z25 : Hid (W24.heap.size = w20.heap.size + 1) := Lib.hid (by rw [hW24]; simp)
  have B26 : Hid (Box W24 (w20.heap.size) 24 #[.int .i64 a0d0, .int .i64 a0d1, .int .i64 a0d2, .int .i64 a0d3, .bool a0d4, .bool a0d5, .bool a0d6, .bool a0d7, .slice x0vA8 a0d8.length x0vc8]) := Lib.hid (by rw [hW24]; exact (Box.new w20 24 #[.int .i64 a0d0, .int .i64 a0d1, .int .i64 a0d2, .int .i64 a0d3, .bool a0d4, .bool a0d5, .bool a0d6, .bool a0d7, .slice x0vA8 a0d8.length x0vc8]))
  have F27 := Lib.hid (F21.out.step hba)
  have F28 := Lib.hid (Nx0.out.below hba)
  have H29 := Lib.hid (bt H22.out hba)
  have Z30 : Hid (w20.heap.size ≤ W24.heap.size) := Lib.hid hba.size
  clear F21 Nx0 H22 hba
  have HW24 := Lib.hid hW24
  clear hW24
  go_wp2_with fail
  rw [← HW24.out]
  refine (HImpl.out W24 x0vA8 x0vc8 F28.out.reads Kx0.out z0).mono ?_
  rintro e w31 ⟨rfl, hc⟩
  clear HW24
  have F32 := Lib.hid (F27.out.step hc)
  have F33 := Lib.hid (F28.out.below hc)
  have F34 := Lib.hid (B26.out.step hc)
  have H35 := Lib.hid (bt H29.out hc)
  have Z36 : Hid (W24.heap.size ≤ w31.heap.size) := Lib.hid hc.size
  clear F27 F28 B26 H29 hc
  have f0 : w31.cell? ⟨w.heap.size, 0, none⟩ = some (.int .i64 a0d0) := F32.out.cell 0 rfl
  have f1 : w31.cell? ⟨w.heap.size, 1, none⟩ = some (.int .i64 a0d1) := F32.out.cell 1 rfl
  have f2 : w31.cell? ⟨w.heap.size, 2, none⟩ = some (.int .i64 a0d2) := F32.out.cell 2 rfl
  have f3 : w31.cell? ⟨w.heap.size, 3, none⟩ = some (.int .i64 a0d3) := F32.out.cell 3 rfl
  have f4 : w31.cell? ⟨w.heap.size, 4, none⟩ = some (.bool a0d4) := F32.out.cell 4 rfl
  have f5 : w31.cell? ⟨w.heap.size, 5, none⟩ = some (.bool a0d5) := F32.out.cell 5 rfl
  have f6 : w31.cell? ⟨w.heap.size, 6, none⟩ = some (.bool a0d6) := F32.out.cell 6 rfl
  have f7 : w31.cell? ⟨w.heap.size, 7, none⟩ = some (.bool a0d7) := F32.out.cell 7 rfl
  have f8 : w31.cell? ⟨w.heap.size, 8, none⟩ = some (.slice a0vA8 a0d8.length a0vc8) := F32.out.cell 8 rfl
  have f9 : w31.cell? ⟨w20.heap.size, 0, none⟩ = some (.int .i64 a0d0) := F34.out.cell 0 rfl
  have f10 : w31.cell? ⟨w20.heap.size, 1, none⟩ = some (.int .i64 a0d1) := F34.out.cell 1 rfl
  have f11 : w31.cell? ⟨w20.heap.size, 2, none⟩ = some (.int .i64 a0d2) := F34.out.cell 2 rfl
  have f12 : w31.cell? ⟨w20.heap.size, 3, none⟩ = some (.int .i64 a0d3) := F34.out.cell 3 rfl
  have f13 : w31.cell? ⟨w20.heap.size, 4, none⟩ = some (.bool a0d4) := F34.out.cell 4 rfl
  have f14 : w31.cell? ⟨w20.heap.size, 5, none⟩ = some (.bool a0d5) := F34.out.cell 5 rfl
  have f15 : w31.cell? ⟨w20.heap.size, 6, none⟩ = some (.bool a0d6) := F34.out.cell 6 rfl
  have f16 : w31.cell? ⟨w20.heap.size, 7, none⟩ = some (.bool a0d7) := F34.out.cell 7 rfl
  have f17 : w31.cell? ⟨w20.heap.size, 8, none⟩ = some (.slice x0vA8 a0d8.length x0vc8) := F34.out.cell 8 rfl
  have HK := Lib.hid (fun W' (hb : Below w31.heap.size w31 W') => And.intro ((hb.cell (cell_lt f0)).trans f0) (And.intro ((hb.cell (cell_lt f1)).trans f1) (And.intro ((hb.cell (cell_lt f2)).trans f2) (And.intro ((hb.cell (cell_lt f3)).trans f3) (And.intro ((hb.cell (cell_lt f4)).trans f4) (And.intro ((hb.cell (cell_lt f5)).trans f5) (And.intro ((hb.cell (cell_lt f6)).trans f6) (And.intro ((hb.cell (cell_lt f7)).trans f7) (And.intro ((hb.cell (cell_lt f8)).trans f8) (And.intro ((hb.cell (cell_lt f9)).trans f9) (And.intro ((hb.cell (cell_lt f10)).trans f10) (And.intro ((hb.cell (cell_lt f11)).trans f11) (And.intro ((hb.cell (cell_lt f12)).trans f12) (And.intro ((hb.cell (cell_lt f13)).trans f13) (And.intro ((hb.cell (cell_lt f14)).trans f14) (And.intro ((hb.cell (cell_lt f15)).trans f15) (And.intro ((hb.cell (cell_lt f16)).trans f16) ((hb.cell (cell_lt f17)).trans f17))))))))))))))))))
  have h6 : Below w31.heap.size w31 w31.drew := (Below.refl _ _).drew
  go_wp2
  go_region_held3 (fun W => W.cell? ⟨w.heap.size, 0, none⟩ = some (.int .i64 a0d0) ∧ W.cell? ⟨w.heap.size, 1, none⟩ = some (.int .i64 a0d1) ∧ W.cell? ⟨w.heap.size, 2, none⟩ = some (.int .i64 a0d2) ∧ W.cell? ⟨w.heap.size, 3, none⟩ = some (.int .i64 a0d3) ∧ W.cell? ⟨w.heap.size, 4, none⟩ = some (.bool a0d4) ∧ W.cell? ⟨w.heap.size, 5, none⟩ = some (.bool a0d5) ∧ W.cell? ⟨w.heap.size, 6, none⟩ = some (.bool a0d6) ∧ W.cell? ⟨w.heap.size, 7, none⟩ = some (.bool a0d7) ∧ W.cell? ⟨w.heap.size, 8, none⟩ = some (.slice a0vA8 a0d8.length a0vc8) ∧ W.cell? ⟨w20.heap.size, 0, none⟩ = some (.int .i64 a0d0) ∧ W.cell? ⟨w20.heap.size, 1, none⟩ = some (.int .i64 a0d1) ∧ W.cell? ⟨w20.heap.size, 2, none⟩ = some (.int .i64 a0d2) ∧ W.cell? ⟨w20.heap.size, 3, none⟩ = some (.int .i64 a0d3) ∧ W.cell? ⟨w20.heap.size, 4, none⟩ = some (.bool a0d4) ∧ W.cell? ⟨w20.heap.size, 5, none⟩ = some (.bool a0d5) ∧ W.cell? ⟨w20.heap.size, 6, none⟩ = some (.bool a0d6) ∧ W.cell? ⟨w20.heap.size, 7, none⟩ = some (.bool a0d7) ∧ W.cell? ⟨w20.heap.size, 8, none⟩ = some (.slice x0vA8 a0d8.length x0vc8))
    (first | exact HK.out _ h6 | exact HK.out _ (bt h6 hba) | exact HK.out _ (bt (bt h6 hba) hbb))
    (first | (go_at_call 15; refine (HTo0.out _ H35.out.drew z0).mono ?_; rintro e w38 ⟨t37vA8, t37vc8, rfl, Nt37, Kt37, hba⟩) | (go_at_call 10; refine (eqCpuA x0vA8 x0vc8 t37vA8 t37vc8 a0d0 a0d1 a0d2 a0d3 a0d4 a0d5 a0d6 a0d7 a0d8 w38 (F33.out.below (bt h6 hba)).reads Nt37.out.reads (Nat.le_trans (Nat.le_trans (szA_len _) z0) (by unfold maxLen; omega))).mono ?_; rintro e w39 ⟨rfl, hbb⟩))
  have hc : Below w31.heap.size w31 w39 := bt (bt h6 hba) hbb
  have F40 := Lib.hid (F32.out.step hc)
  have F41 := Lib.hid (F33.out.below hc)
  have F42 := Lib.hid (F34.out.step hc)
  have H43 := Lib.hid (bt H35.out hc)
  have Z44 : Hid (w31.heap.size ≤ w39.heap.size) := Lib.hid hc.size
  clear F32 F33 F34 H35 hc
  clear HK h6 hba hbb Nt37 Kt37 f0 f1 f2 f3 f4 f5 f6 f7 f8 f9 f10 f11 f12 f13 f14 f15 f16 f17
  go_wp2
  go_ret
  exact ⟨rfl, H43.out⟩

/-! The row's step. -/
open Go.ChangeShapes Go.WideShapes Go.ChangeAt
open Go.ChangeMaps (open_string shut_string)
set_option maxRecDepth 100000 in
theorem own : ownKnob Try.prog.godebug = none := by kernel_rfl
set_option maxRecDepth 100000 in
theorem laidOut : laidOutB Try.prog = true := factLaid
set_option maxRecDepth 100000 in
theorem lifted (os : Os) (started : os.Started) (H : Type) (enc : TypeId × Value → H) :
    ReturnsInHanded {} Try.checked os 4 .any (Rows.fnExactCpuOKSpec.pre6 enc Try.prog Try.f4 Rows.fnExactCpuOKRow.domain false) (Rows.fnExactCpuOKSpec.post enc Try.prog Try.f4 false true false false) := by
  refine returnsInHanded_of_change (C := Try.checked) own started (by kernel_rfl) Try.func4
    (ChangeSpec.witness6 (enc := enc) (C := Try.checked) false ⟨#[], #[.agg #[.int .i64 0, .int .i64 0, .int .i64 0, .int .i64 0, .bool false, .bool false, .bool false, .bool false, .slice none 0 0]], []⟩ 8 (by kernel_rfl) (by kernel_rfl) (by kernel_rfl) (by kernel_rfl)) ?_
  intro W base args ds gs before hval0 hW hcnd _
  have hval : ∀ (j : Nat) t v, Try.f4.params[j]? = some t → args[j]? = some v → Value.okWide Try.prog W .any base t v := hval0
  have hW' := hW
  obtain ⟨p, q, hA0, hV, rfl, hfz, hnd⟩ := hW
  have hA : DataW.TrodAll enc Try.prog W 0 (fun _ => true) true Try.f4.params.toList args.toList ds p := hA0
  rw [Try.params4] at hA hval
  obtain ⟨v0, vs0, d0, ds0, p0, q0, hargs, rfl, rfl, h0, r0⟩ := trodAll_cons hA
  obtain ⟨rfl, rfl, rfl⟩ := trodAll_nil r0
  obtain rfl : args = #[v0] := by cases args; simp_all
  obtain ⟨rfl, rfl⟩ := trodVars_none hV
  have k0 := h0
  have lt0 : ∀ x ∈ p0, x.block < W.heap.size := by obtain ⟨m, hm⟩ := k0; exact DataW.trod_lt m _ _ _ hm
  obtain ⟨a0vA8, a0vc8, a0d0, a0d1, a0d2, a0d3, a0d4, a0d5, a0d6, a0d7, a0d8, rfl, R0, G0⟩ := openCpu (hval 0 29 v0 rfl rfl) h0
  clear hA0 hval0
  refine (walk a0vA8 a0vc8 a0d0 a0d1 a0d2 a0d3 a0d4 a0d5 a0d6 a0d7 a0d8 W R0 G0).mono fun e W' ⟨he, bel⟩ => ?_
  subst he
  exact ⟨_, rfl, _, _, _, [], _, [], hW', trodAll_mk1 (shut_bool Try.underlying4 _), (trodAll_cons_mk (Below.trod laidOut (by kernel_rfl) (of_decide_eq_true (by kernel_rfl)) k0 bel lt0) trodAll_mk0), rfl, bel.frame _, fun h => by cases h⟩

theorem k0 : (Rows.fnExactCpuOKRow.wf (OpenSpec.ofChange Rows.fnExactCpuOKSpec)) = true := by kernel_rfl
set_option maxRecDepth 100000 in
theorem k3 : (Try.f4.params.all (Try.prog.readableRec ·)) = true := by kernel_rfl
set_option maxRecDepth 100000 in
theorem k4 : (namedTie Try.prog Rows.fnExactCpuOKRow.named Rows.fnExactCpuOKSpec.vars) = true := by kernel_rfl
theorem k5 : ((Rows.fnExactCpuOKRow.stops == [])) = true := by kernel_rfl
set_option maxRecDepth 100000 in
theorem k6 : ((Try.prog.stops == [])) = true := by kernel_rfl
theorem k7 : ((Rows.fnExactCpuOKRow.knobs == [])) = true := by kernel_rfl
set_option maxRecDepth 100000 in
theorem k8 : ((Try.prog.stopKnobs == [])) = true := by kernel_rfl
set_option maxRecDepth 100000 in
theorem k9 : ((Rows.fnExactCpuOKRow.inPlace == Try.prog.inPlace 4)) = true := by kernel_rfl
set_option maxRecDepth 100000 in
theorem k10 : ((Rows.fnExactCpuOKRow.unfollowed == Try.prog.unfollowed 4)) = true := by kernel_rfl
set_option maxRecDepth 100000 in
theorem k11 : ((Rows.fnExactCpuOKRow.recurses == Try.prog.recurses 4)) = true := by kernel_rfl
set_option maxRecDepth 100000 in
theorem k12 : ((Rows.fnExactCpuOKRow.named == Try.prog.varsNamed 4)) = true := by kernel_rfl
set_option maxRecDepth 100000 in
theorem k13 : ((Rows.fnExactCpuOKRow.maps == (Try.f4.params.toList ++ Rows.fnExactCpuOKSpec.plain.varTypes Try.prog).any (Try.prog.mapsRec ·))) = true := by kernel_rfl
set_option maxRecDepth 100000 in
theorem k14 : ((Rows.fnExactCpuOKRow.ifaces == (Try.f4.params.toList ++ Rows.fnExactCpuOKSpec.plain.varTypes Try.prog).any (Try.prog.ifacesRec ·))) = true := by kernel_rfl
set_option maxRecDepth 100000 in
theorem k15 : ((Rows.fnExactCpuOKRow.mapsOut == Try.prog.mapsAmong Try.f4.resultTypes.toList)) = true := by kernel_rfl
set_option maxRecDepth 100000 in
theorem k16 : ((Rows.fnExactCpuOKRow.loops == (Try.f4.params.toList ++ Rows.fnExactCpuOKSpec.plain.varTypes Try.prog).any (Try.prog.loopsFrom ·))) = true := by kernel_rfl
set_option maxRecDepth 100000 in
theorem k17 : ((Rows.fnExactCpuOKRow.wideKeys == (Try.f4.params.toList ++ Rows.fnExactCpuOKSpec.plain.varTypes Try.prog ++ Try.f4.resultTypes.toList).any (Try.prog.wideKeysFrom ·))) = true := by kernel_rfl
set_option maxRecDepth 100000 in
theorem k18 : (Rows.fnExactCpuOKSpec.vars.all (Try.prog.varReadable ·)) = true := by kernel_rfl
set_option maxRecDepth 100000 in
theorem k19 : (Try.f4.resultTypes.all (fun t => Try.prog.readableRec t && decide (t < Try.prog.types.size))) = true := by kernel_rfl
set_option maxRecDepth 100000 in
theorem k20 : ((Rows.fnExactCpuOKRow.ifacesOut == Try.f4.resultTypes.toList.any (Try.prog.ifacesRec ·))) = true := by kernel_rfl
set_option maxRecDepth 100000 in
theorem k21 : ((Rows.fnExactCpuOKRow.loopsOut == Try.f4.resultTypes.toList.any (Try.prog.loopsFrom ·))) = true := by kernel_rfl
set_option maxRecDepth 100000 in
theorem k22 : ((Rows.fnExactCpuOKRow.plainKeys == Try.prog.plainKeys)) = true := by kernel_rfl
theorem k23 : (Rows.fnExactCpuOKRow.shortTexts.isNone) = true := by kernel_rfl
set_option maxRecDepth 100000 in
theorem k28 : ((Rows.fnExactCpuOKRow.kinds == (if Rows.fnExactCpuOKRow.domain.isEmpty then [] else Try.f4.params.toList.map fun t => match Try.prog.underlying t with | some (.int k) => some k | _ => none))) = true := by kernel_rfl
theorem k29 : ((Rows.fnExactCpuOKRow.pinned == Rows.fnExactCpuOKRow.pinnedBy)) = true := by kernel_rfl
set_option maxRecDepth 100000 in
theorem k30 : ((Rows.fnExactCpuOKRow.veiled == (Try.f4.params.toList ++ Rows.fnExactCpuOKSpec.plain.varTypes Try.prog ++ Try.f4.resultTypes.toList).any (Try.prog.veiledRec ·))) = true := by kernel_rfl
set_option maxRecDepth 100000 in
theorem k31 : (Rows.fnExactCpuOKRow.veiledFits Try.prog Try.f4.params.toList (Try.f4.params.toList ++ Rows.fnExactCpuOKSpec.plain.varTypes Try.prog ++ Try.f4.resultTypes.toList)) = true := by kernel_rfl
set_option maxRecDepth 100000 in
theorem facts : joinedFacts Try.prog 4 Try.f4 Rows.fnExactCpuOKSpec Rows.fnExactCpuOKRow = true := (and_mk (and_mk (and_mk (and_mk (and_mk (and_mk (and_mk (and_mk (and_mk (and_mk (and_mk (and_mk (and_mk (and_mk (and_mk (and_mk (and_mk (and_mk (and_mk (and_mk (and_mk (and_mk (and_mk (and_mk (and_mk (and_mk (and_mk (and_mk (and_mk (and_mk (and_mk k0 factLaid) factRowed) k3) k4) k5) k6) k7) k8) k9) k10) k11) k12) k13) k14) k15) k16) k17) k18) k19) k20) k21) k22) k23) factHeard) factEnter) factLift) factMake) k28) k29) k30) k31)
set_option maxRecDepth 100000 in
theorem named : Try.prog.funcNamed Rows.fnExactCpuOKRow.func = some 4 := by kernel_rfl
set_option maxRecDepth 100000 in
theorem inst : Try.f4.isInstance Try.prog Rows.fnExactCpuOKRow.origin Rows.fnExactCpuOKRow.targs := of_decide_eq_true (by kernel_rfl)
set_option maxRecDepth 100000 in
theorem over : Rows.fnExactCpuOKRow.holds Try.pinned (OpenSpec.ofChange Rows.fnExactCpuOKSpec) :=
  OpenClaim.holds_of_wide 4 Try.f4 rfl rfl rfl rfl rfl rfl rfl ⟨rfl, rfl, rfl, rfl, rfl⟩ rfl rfl rfl rfl rfl named Try.func4 facts
    inst (by unfold Func.isWrapper; first | (rw [if_pos (by decide +kernel)]; kernel_rfl) | (rw [if_neg (by decide +kernel)]; exact ⟨rfl, rfl⟩))
    (fun os started H enc _ => lifted os started H enc)
theorem proved : Rows.FnExactCpuOKSaid := over
#print axioms proved
end Go.Proofs.Ytieljgoodmoacaa.fnExactCpuOK
