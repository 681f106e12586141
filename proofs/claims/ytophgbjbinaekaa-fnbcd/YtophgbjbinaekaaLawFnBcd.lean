/- For every byte slice (of any size), laws.FnBcd returns true: a number of two digits is recovered from its binary-coded decimals, which are those of the model, and a last digit of fifteen is refused. No condition. -/
import Derived.Test.YtophgbjbinaekaaM1
import Derived.Test.YtophgbjbinaekaaFactA
import Derived.Test.YtophgbjbinaekaaFactB
import Derived.Test.YtophgbjbinaekaaFactC
import Derived.Test.YtophgbjbinaekaaFactD
import Derived.ProofKit
import Derived.OpenShut
import Derived.ShutString
import Derived.ChangeOld
namespace Go.Proofs.Ytophgbjbinaekaa.fnBcd
open Go.RowKit

set_option maxRecDepth 100000 in
theorem walk (A : Option Addr) (n c : Nat) (zs : List Nat) (w : World) (hl : zs.length = n) (hn : n ≤ maxLen) (h : ByB w w.heap.size A zs) :
    Calls Try.prog 4 #[.slice A n c] w fun e w' => e = .returned (.bool true) ∧ Below w.heap.size w w' :=
  walkBcd A n c zs w hl hn h


/-! The row's step. -/
open Go.ChangeShapes Go.WideShapes Go.ChangeAt
open Go.ChangeMaps (open_string shut_string)
set_option maxRecDepth 100000 in
theorem own : ownKnob Try.prog.godebug = none := by kernel_rfl
set_option maxRecDepth 100000 in
theorem laidOut : laidOutB Try.prog = true := factLaid
set_option maxRecDepth 100000 in
theorem lifted (os : Os) (started : os.Started) (H : Type) (enc : TypeId × Value → H) :
    ReturnsInHanded {} Try.checked os 4 .any (Rows.fnBcdSpec.pre6 enc Try.prog Try.f4 Rows.fnBcdRow.domain false) (Rows.fnBcdSpec.post enc Try.prog Try.f4 false true false false) := by
  refine returnsInHanded_of_change (C := Try.checked) own started (by kernel_rfl) Try.func4
    (ChangeSpec.witness6 (enc := enc) (C := Try.checked) false ⟨#[], #[.slice none 0 0], []⟩ 8 (by kernel_rfl) (by kernel_rfl) (by kernel_rfl) (by kernel_rfl)) ?_
  intro W base args ds gs before hval0 hW hcnd _
  have hval : ∀ (j : Nat) t v, Try.f4.params[j]? = some t → args[j]? = some v → Value.okWide Try.prog W .any base t v := hval0
  have hW' := hW
  obtain ⟨p, q, hA0, hV, rfl, hfz, hnd⟩ := hW
  have hA : DataW.TrodAll enc Try.prog W 0 (fun _ => true) true Try.f4.params.toList args.toList ds p := hA0
  rw [Try.params4] at hA hval
  obtain ⟨v0, vs0, d0, ds0, p0, q0, hargs, rfl, rfl, h0, r0⟩ := trodAll_cons hA
  obtain ⟨rfl, rfl, rfl⟩ := trodAll_nil r0
  obtain rfl : args = #[v0] := by cases args; simp_all
  obtain ⟨rfl, rfl⟩ := trodVars_none hV
  have k0 := h0
  have lt0 : ∀ x ∈ p0, x.block < W.heap.size := by obtain ⟨m, hm⟩ := k0; exact DataW.trod_lt m _ _ _ hm
  obtain ⟨f0, hf0⟩ := h0
  obtain ⟨a0, l0, c0, rfl⟩ := okWide_slice Try.underlying22 (hval 0 22 v0 rfl rfl)
  obtain ⟨A0, n0, cc0, zs0, e0, hl0, hn0, hs0⟩ := open_bytes Try.underlying22 Try.underlying5 cellsU8 (by simpa [Value.cells] using hf0)
  injection e0 with e1 e2 e3; subst e1 e2 e3
  clear hA0 hval0
  refine (walk a0 l0 c0 zs0 W hl0 hn0 hs0).mono fun e W' ⟨he, bel⟩ => ?_
  subst he
  exact ⟨_, rfl, _, _, _, [], _, [], hW', trodAll_mk1 (shut_bool Try.underlying4 _), (trodAll_cons_mk (Below.trod laidOut (by kernel_rfl) (of_decide_eq_true (by kernel_rfl)) k0 bel lt0) trodAll_mk0), rfl, bel.frame _, fun h => by cases h⟩

theorem k0 : (Rows.fnBcdRow.wf (OpenSpec.ofChange Rows.fnBcdSpec)) = true := by kernel_rfl
set_option maxRecDepth 100000 in
theorem k3 : (Try.f4.params.all (Try.prog.readableRec ·)) = true := by kernel_rfl
set_option maxRecDepth 100000 in
theorem k4 : (namedTie Try.prog Rows.fnBcdRow.named Rows.fnBcdSpec.vars) = true := by kernel_rfl
theorem k5 : ((Rows.fnBcdRow.stops == [])) = true := by kernel_rfl
set_option maxRecDepth 100000 in
theorem k6 : ((Try.prog.stops == [])) = true := by kernel_rfl
theorem k7 : ((Rows.fnBcdRow.knobs == [])) = true := by kernel_rfl
set_option maxRecDepth 100000 in
theorem k8 : ((Try.prog.stopKnobs == [])) = true := by kernel_rfl
set_option maxRecDepth 100000 in
theorem k9 : ((Rows.fnBcdRow.inPlace == Try.prog.inPlace 4)) = true := by kernel_rfl
set_option maxRecDepth 100000 in
theorem k10 : ((Rows.fnBcdRow.unfollowed == Try.prog.unfollowed 4)) = true := by kernel_rfl
set_option maxRecDepth 100000 in
theorem k11 : ((Rows.fnBcdRow.recurses == Try.prog.recurses 4)) = true := by kernel_rfl
set_option maxRecDepth 100000 in
theorem k12 : ((Rows.fnBcdRow.named == Try.prog.varsNamed 4)) = true := by kernel_rfl
set_option maxRecDepth 100000 in
theorem k13 : ((Rows.fnBcdRow.maps == (Try.f4.params.toList ++ Rows.fnBcdSpec.plain.varTypes Try.prog).any (Try.prog.mapsRec ·))) = true := by kernel_rfl
set_option maxRecDepth 100000 in
theorem k14 : ((Rows.fnBcdRow.ifaces == (Try.f4.params.toList ++ Rows.fnBcdSpec.plain.varTypes Try.prog).any (Try.prog.ifacesRec ·))) = true := by kernel_rfl
set_option maxRecDepth 100000 in
theorem k15 : ((Rows.fnBcdRow.mapsOut == Try.prog.mapsAmong Try.f4.resultTypes.toList)) = true := by kernel_rfl
set_option maxRecDepth 100000 in
theorem k16 : ((Rows.fnBcdRow.loops == (Try.f4.params.toList ++ Rows.fnBcdSpec.plain.varTypes Try.prog).any (Try.prog.loopsFrom ·))) = true := by kernel_rfl
set_option maxRecDepth 100000 in
theorem k17 : ((Rows.fnBcdRow.wideKeys == (Try.f4.params.toList ++ Rows.fnBcdSpec.plain.varTypes Try.prog ++ Try.f4.resultTypes.toList).any (Try.prog.wideKeysFrom ·))) = true := by kernel_rfl
set_option maxRecDepth 100000 in
theorem k18 : (Rows.fnBcdSpec.vars.all (Try.prog.varReadable ·)) = true := by kernel_rfl
set_option maxRecDepth 100000 in
theorem k19 : (Try.f4.resultTypes.all (fun t => Try.prog.readableRec t && decide (t < Try.prog.types.size))) = true := by kernel_rfl
set_option maxRecDepth 100000 in
theorem k20 : ((Rows.fnBcdRow.ifacesOut == Try.f4.resultTypes.toList.any (Try.prog.ifacesRec ·))) = true := by kernel_rfl
set_option maxRecDepth 100000 in
theorem k21 : ((Rows.fnBcdRow.loopsOut == Try.f4.resultTypes.toList.any (Try.prog.loopsFrom ·))) = true := by kernel_rfl
set_option maxRecDepth 100000 in
theorem k22 : ((Rows.fnBcdRow.plainKeys == Try.prog.plainKeys)) = true := by kernel_rfl
theorem k23 : (Rows.fnBcdRow.shortTexts.isNone) = true := by kernel_rfl
set_option maxRecDepth 100000 in
theorem k28 : ((Rows.fnBcdRow.kinds == (if Rows.fnBcdRow.domain.isEmpty then [] else Try.f4.params.toList.map fun t => match Try.prog.underlying t with | some (.int k) => some k | _ => none))) = true := by kernel_rfl
theorem k29 : ((Rows.fnBcdRow.pinned == Rows.fnBcdRow.pinnedBy)) = true := by kernel_rfl
set_option maxRecDepth 100000 in
theorem k30 : ((Rows.fnBcdRow.veiled == (Try.f4.params.toList ++ Rows.fnBcdSpec.plain.varTypes Try.prog ++ Try.f4.resultTypes.toList).any (Try.prog.veiledRec ·))) = true := by kernel_rfl
set_option maxRecDepth 100000 in
theorem k31 : (Rows.fnBcdRow.veiledFits Try.prog Try.f4.params.toList (Try.f4.params.toList ++ Rows.fnBcdSpec.plain.varTypes Try.prog ++ Try.f4.resultTypes.toList)) = true := by kernel_rfl
set_option maxRecDepth 100000 in
theorem facts : joinedFacts Try.prog 4 Try.f4 Rows.fnBcdSpec Rows.fnBcdRow = true := (and_mk (and_mk (and_mk (and_mk (and_mk (and_mk (and_mk (and_mk (and_mk (and_mk (and_mk (and_mk (and_mk (and_mk (and_mk (and_mk (and_mk (and_mk (and_mk (and_mk (and_mk (and_mk (and_mk (and_mk (and_mk (and_mk (and_mk (and_mk (and_mk (and_mk (and_mk k0 factLaid) factRowed) k3) k4) k5) k6) k7) k8) k9) k10) k11) k12) k13) k14) k15) k16) k17) k18) k19) k20) k21) k22) k23) factHeard) factEnter) factLift) factMake) k28) k29) k30) k31)
set_option maxRecDepth 100000 in
theorem named : Try.prog.funcNamed Rows.fnBcdRow.func = some 4 := by kernel_rfl
set_option maxRecDepth 100000 in
theorem inst : Try.f4.isInstance Try.prog Rows.fnBcdRow.origin Rows.fnBcdRow.targs := of_decide_eq_true (by kernel_rfl)
set_option maxRecDepth 100000 in
theorem over : Rows.fnBcdRow.holds Try.pinned (OpenSpec.ofChange Rows.fnBcdSpec) :=
  OpenClaim.holds_of_wide 4 Try.f4 rfl rfl rfl rfl rfl rfl rfl ⟨rfl, rfl, rfl, rfl, rfl⟩ rfl rfl rfl rfl rfl named Try.func4 facts
    inst (by unfold Func.isWrapper; first | (rw [if_pos (by decide +kernel)]; kernel_rfl) | (rw [if_neg (by decide +kernel)]; exact ⟨rfl, rfl⟩))
    (fun os started H enc _ => lifted os started H enc)
theorem proved : Rows.FnBcdSaid := over
#print axioms proved
end Go.Proofs.Ytophgbjbinaekaa.fnBcd
