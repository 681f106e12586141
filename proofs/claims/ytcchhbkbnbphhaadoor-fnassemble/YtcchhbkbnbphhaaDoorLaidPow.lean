/- The library's table of powers of ten, as a row lists it. -/
import Derived.Test.YtcchhbkbnbphhaaDoorLaid
import Derived.Lib.ItoaMem
namespace Go.Proofs.YtcchhbkbnbphhaaDoor
open Go.ChangeShapes Go.WideShapes Go.ChangeAt Go.RowKit

set_option maxRecDepth 100000 in
theorem gPow : Tryd.prog.globalNamed "internal/strconv.uint64pow10" = some 1 := by kernel_rfl
set_option maxRecDepth 100000 in
theorem gPowType : (Tryd.prog.globals[1]?).map (·.type) = some 121 := by kernel_rfl
set_option maxRecDepth 100000 in
theorem cellsPow : Tryd.prog.cellsOf 121 = 20 := by kernel_rfl
set_option maxRecDepth 100000 in
theorem cellsU64 : Tryd.prog.cellsOf 112 = 1 := by kernel_rfl
theorem laid_pow : (Rows.laid_internal_strconv_uint64pow10 : DataW Unit) = Lib.tabData .u64 Lib.pow10Tab := by kernel_rfl
def Pow (w : World) : Prop := 1 < w.heap.size ∧ Lib.TabIs Tryd.prog w "internal/strconv.uint64pow10" .u64 Lib.pow10Tab
theorem Pow.below {w w' : World} (h : Pow w) (hb : Below w.heap.size w w') : Pow w' :=
  ⟨Nat.lt_of_lt_of_le h.1 hb.size, var?_below hb gPow h.1 h.2⟩
set_option maxRecDepth 100000 in
theorem pow_of_reads {W : World} (h : Reads W "internal/strconv.uint64pow10" Rows.laid_internal_strconv_uint64pow10) : Pow W := by
  obtain ⟨g, t, cs, fuel, p, hg, ht, hvar, hd⟩ := h
  obtain rfl := Option.some.inj (gPow.symm.trans hg)
  obtain rfl := Option.some.inj (gPowType.symm.trans ht)
  rw [laid_pow] at hd
  have hc := Lib.cells_of_tab Tryd.underlying121 Tryd.underlying112 cellsU64 cellsPow hd
  have hv : W.var? Tryd.prog "internal/strconv.uint64pow10" = some (Lib.pow10Tab.map fun z => Value.int .u64 z).toArray := by
    rw [hvar]
    obtain ⟨l⟩ := cs
    simp only at hc
    rw [hc]
  refine ⟨?_, hv⟩
  have hcell := World.var?_cell gPow hv 0
  have h0 : ((Lib.pow10Tab.map fun z => Value.int .u64 z).toArray)[0]? = some (.int .u64 1) := by kernel_rfl
  rw [h0] at hcell
  exact cell_lt hcell
end Go.Proofs.YtcchhbkbnbphhaaDoor
