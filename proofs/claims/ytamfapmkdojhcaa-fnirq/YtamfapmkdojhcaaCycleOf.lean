/- The contract of chip.cycle. -/
import Derived.Test.YtamfapmkdojhcaaChipWipe
import Derived.Test.YtamfapmkdojhcaaFlashOps
import Derived.StillTailTactics
namespace Go.Proofs.Ytamfapmkdojhcaa
open Go.RowKit

def cycZ (zs : List Int) (gs : List Bool) (st : Int) (k v : Nat) : List Int := if st = 3 then progL zs gs k v else if st = 6 then wipeZ zs gs k v else zs
def cycG (gs : List Bool) (st : Int) (k : Nat) : List Bool := if st = 8 then gs.set (k / 16) true else gs
theorem cycZ_len (zs : List Int) (gs : List Bool) (st : Int) (k v : Nat) : (cycZ zs gs st k v).length = zs.length := by
  unfold cycZ
  split
  · exact progL_len _ _ _ _
  · split
    · exact wipeZ_len _ _ _ _
    · rfl
theorem cycG_len (gs : List Bool) (st : Int) (k : Nat) : (cycG gs st k).length = gs.length := by
  unfold cycG
  split
  · exact List.length_set
  · rfl
theorem eraseN_range {zs : List Int} {gs : List Bool} (h : ∀ z ∈ zs, 0 ≤ z ∧ z ≤ 255) : ∀ n, ∀ z ∈ eraseN zs gs n, 0 ≤ z ∧ z ≤ 255
  | 0 => h
  | n + 1 => eraseL_range (eraseN_range h n)
theorem wipeZ_range {zs : List Int} {gs : List Bool} {k v : Nat} (h : ∀ z ∈ zs, 0 ≤ z ∧ z ≤ 255) : ∀ z ∈ wipeZ zs gs k v, 0 ≤ z ∧ z ≤ 255 := by
  unfold wipeZ
  split
  · split
    · exact eraseN_range h 16
    · exact h
  · split
    · exact eraseL_range h
    · exact h
theorem cycZ_range {zs : List Int} {gs : List Bool} {st : Int} {k v : Nat} (h : ∀ z ∈ zs, 0 ≤ z ∧ z ≤ 255) (hv : v < 256) : ∀ z ∈ cycZ zs gs st k v, 0 ≤ z ∧ z ≤ 255 := by
  unfold cycZ
  split
  · exact progL_range h hv
  · split
    · exact wipeZ_range h
    · exact h
theorem nextS_in (st k v : Int) : 0 ≤ nextS st k v ∧ nextS st k v ≤ 8 := by
  unfold nextS cmdS
  split
  · split <;> omega
  · split
    · split <;> omega
    · split
      · split
        · split
          · omega
          · split
            · omega
            · split
              · omega
              · split <;> omega
        · omega
      · split
        · split <;> omega
        · omega

theorem wpStill_load_mid {P : Program} {ops : Array Oper} {w : World} {Q : Act → Prop} {a : Act} {o : Oper} {rest : List Oper} (hgd : o.guard = none) (ty : TypeId) (x : Operand) (ho : o.op = .load ty x)
    (b off : Nat) (hx : a.eval x = .pointer (some ⟨b, off, none⟩)) (cs : List Value) (d : TypeDesc) (hc : w.rangeAt b off cs) (hu : P.underlying ty = some d) (hd : d.isRow = true) (hi : (P.info? ty).map (·.size) = some cs.length)
    (h : wpStill P ops w Q rest (a.put o.dst (.agg cs.toArray))) : wpStill P ops w Q (o :: rest) a :=
  wpStill_step (fun K hK => by
    rw [if_pos (by simp [Region.wanted, hgd])]
    unfold Oper.still execOp
    simp only [ho, hx, Instr.loadAt, Instr.sureAddr, Sem.run_bind, Sem.run_pure, Result.andThen_ok, run_loadVar_mid w b off ty cs d hc hu hd hi]
    rw [Oper.stillUpon_value]
    exact hK _ h)

end Go.Proofs.Ytamfapmkdojhcaa
