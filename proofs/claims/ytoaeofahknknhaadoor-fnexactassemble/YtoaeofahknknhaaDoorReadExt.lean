/- A part of a text, as a list. -/
import Derived.Test.YtoaeofahknknhaaDoorMem
namespace Go.Proofs.YtoaeofahknknhaaDoor
theorem ext_list (t : ByteArray) (i j : Nat) : (t.extract i j).data.toList = (t.data.toList.drop i).take (j - i) := by
  rw [ByteArray.data_extract, Array.toList_extract, List.extract_eq_take_drop]
end Go.Proofs.YtoaeofahknknhaaDoor
