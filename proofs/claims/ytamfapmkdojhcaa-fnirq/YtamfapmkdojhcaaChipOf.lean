/- The contract of chipOf: a flash as a chip. -/
import Derived.Test.YtamfapmkdojhcaaChipOps
import Derived.Laws.CopyOwn
import Derived.Deep.RegionHeld3
namespace Go.Proofs.Ytamfapmkdojhcaa
open Go.RowKit

/-- The first j of zs, then zeros. -/
def takeZ (zs : List Int) (j : Nat) : List Int := (List.range 256).map fun i => if i < j then zs.getD i 0 else 0
theorem takeZ_len (zs : List Int) (j : Nat) : (takeZ zs j).length = 256 := by simp [takeZ]
theorem takeZ_at (zs : List Int) (j i : Nat) (h : i < 256) : (takeZ zs j).getD i 0 = if i < j then zs.getD i 0 else 0 := by
  unfold takeZ
  rw [List.getD_eq_getElem?_getD, List.getElem?_map, List.getElem?_range h]
  rfl
theorem takeZ_zero (zs : List Int) : takeZ zs 0 = zZ := by
  apply ext_getD 0 (by rw [takeZ_len, zZ_len])
  intro i hi
  rw [takeZ_len] at hi
  rw [takeZ_at _ _ _ hi, if_neg (by omega)]
  unfold zZ
  rw [List.getD_eq_getElem?_getD, List.getElem?_replicate, if_pos hi]
  rfl
theorem takeZ_all (zs : List Int) (h : zs.length = 256) : takeZ zs 256 = zs := by
  apply ext_getD 0 (by rw [takeZ_len, h])
  intro i hi
  rw [takeZ_len] at hi
  rw [takeZ_at _ _ _ hi, if_pos hi]
theorem takeZ_next (zs : List Int) (j : Nat) (hj : j < 256) : (takeZ zs j).set j (zs.getD j 0) = takeZ zs (j + 1) := by
  apply ext_getD 0 (by simp [takeZ_len])
  intro i hi
  have hi' : i < 256 := by simpa [takeZ_len] using hi
  rw [takeZ_at _ _ _ hi']
  by_cases e : i = j
  · subst e
    rw [List.getD_eq_getElem?_getD, List.getElem?_set_self (by rw [takeZ_len]; exact hj), if_pos (by omega)]
    rfl
  · rw [List.getD_eq_getElem?_getD, List.getElem?_set_ne (fun q => e q.symm), ← List.getD_eq_getElem?_getD, takeZ_at _ _ _ hi']
    by_cases q : i < j
    · rw [if_pos q, if_pos (by omega)]
    · rw [if_neg q, if_neg (by omega)]
theorem splice_guard (zs : List Int) (gs gs' : List Bool) (st : Int) (hz : zs.length = 256) (hg : gs.length = gs'.length) : splice (chipC zs gs st) 256 (cellsB gs') = chipC zs gs' st := by
  unfold splice chipC
  rw [List.take_append_of_le_length (by simp [hz]), List.take_of_length_le (by simp [hz]), List.drop_append, List.drop_of_length_le (by simp [hz]), cellsB_len, List.nil_append, List.length_map, hz, show 256 + gs'.length - 256 = gs'.length by omega, List.drop_append, List.drop_of_length_le (by simp [hg]), List.nil_append, List.length_map, hg, Nat.sub_self]
  rfl
set_option maxRecDepth 100000 in
theorem szBool : (Try.prog.info? 4).map (·.size) = some 1 := by kernel_rfl
theorem zC_len : zC.length = 273 := chipC_273 zZ_len zG_len 0
theorem zC_set (st : Int) : zC.set 272 (.int .i64 st) = chipC zZ zG st := chipC_setState zZ_len zG_len st
theorem wpList_build_chip {P : Program} {ops : Array Oper} {rest : List Oper} {op : Oper} {a : Act} {w : World} {Q : Exit → Act → World → Prop} {t : TypeId} (hgd : op.guard = none) (x : Operand) (v : Value) (cs : List Value) (ho : op.op = .build t #[(2, x)]) (hx : a.eval x = v)
    (hr : (Instr.build t #[(2, v)]).run P w = .ok (.agg cs.toArray) w)
    (h : wpList P ops Q rest (a.put op.dst (.agg cs.toArray)) w) : wpList P ops Q (op :: rest) a w :=
  wpList_plain hgd fun _ hK => by
    unfold Oper.wp execOp
    simp only [ho, Sem.run_bind, Sem.run_pure, Result.andThen_ok, List.map_toArray, List.map_cons, List.map_nil, hx, hr]
    exact hK _ _ h

end Go.Proofs.Ytamfapmkdojhcaa
