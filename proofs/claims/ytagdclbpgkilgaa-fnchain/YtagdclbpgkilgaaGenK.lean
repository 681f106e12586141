/- Lengths and sizes of leaves, leaf by leaf. -/
import Derived.Test.YtagdclbpgkilgaaGenA
namespace Go.Proofs.Ytagdclbpgkilgaa
open Go.RowKit
theorem Lf.len_I (zs : List Int) : (Lf.I zs).len = zs.length := rfl
theorem Lf.len_B (gs : List Bool) : (Lf.B gs).len = gs.length := rfl
theorem Lf.len_S (ss : List ByteArray) : (Lf.S ss).len = ss.length := rfl
theorem Lf.sz_I (zs : List Int) : (Lf.I zs).sz = zs.length := rfl
theorem Lf.sz_B (gs : List Bool) : (Lf.B gs).sz = gs.length := rfl
theorem Lf.sz_S (ss : List ByteArray) : (Lf.S ss).sz = ss.length + lenS ss := rfl
end Go.Proofs.Ytagdclbpgkilgaa
