/-
  No cell of these rows narrows 'for every input' (looked for: loops, veiled, ifaces, maps, wideKeys, modest, calm, conditions, laid).
  DERIVED. THE GIVEN ROWS OF THIS SEAT. 7 by the template 'for every input the law returns true; each argument reads behind the call as it read before'; 0 by the template 'total and deterministic' (their statements: YthobepmlopegbaaTotals.lean).
  GIVEN WITH THE SEED: the statements are not yours to turn. If you find one false, say at which input.
  Laid BY PROGRAM, IN A SANDBOX (cutbox-rows.mjs): the forced cells as the released guide's own fill.sh prints them over the translation 42ac6411b377274e… (all of the seat's roots in one cut). By AI agents, Wed Nov 11 2026. No macro, syntax, notation, axiom, sorry.
-/
import Derived.Test.YthobepmlopegbaaChecked
import GoSem.Claim
import GoSem.ClaimJoined
import GoSem.ClaimMapViews
import Derived.JoinedTies
import Derived.KernelRfl
namespace Go.Proofs.Ythobepmlopegbaa
/- THE CELL 'sum', in the pinned program and in every row, IS THE sha256 OF THE DUMP (.gsa) THAT YthobepmlopegbaaProg.lean LOADS. Nothing in Lean hashes anything: it is a label: what it is worth is what the hold of that sum in a sandbox is worth. -/
noncomputable def Try.pinned : Pinned := { name := "ythobepmlopegbaa", sum := "42ac6411b377274e946f5f9724e29b9b6f86662d6bdabc5da58f19f4e73a963b", checked := Try.checked }
namespace Rows
def none {H : Type} : Left H := { results := [], args := [] }

/-- 'laws.FnImage': WHATEVER THE INPUT: true; the input reads as it did. -/
def fnImageSpec : ChangeSpec := { name := "fnImage", fn := fun _ => fun
  | [d1, d2] => { results := [.lit (.bool true)], args := [d1, d2] }
  | _ => none }
def fnImageRow : OpenClaim := { program := "ythobepmlopegbaa", sum := "42ac6411b377274e946f5f9724e29b9b6f86662d6bdabc5da58f19f4e73a963b", func := "loop.example/g00563/laws.FnImage", spec := "fnImage", unfollowed := true, recurses := true, apart := false }
def FnImageSaid : Prop := fnImageRow.holds Try.pinned (OpenSpec.ofChange fnImageSpec)

/-- ITS FALSE NEIGHBOUR: 'it returns false'. Refute it at one input. -/
def fnImageWrong : ChangeSpec := { name := "fnImage", fn := fun _ => fun
  | [d1, d2] => { results := [.lit (.bool false)], args := [d1, d2] }
  | _ => none }
def FnImageWrongFalsely : Prop := fnImageRow.holds Try.pinned (OpenSpec.ofChange fnImageWrong)

/-- 'laws.FnExactSameFlash': WHATEVER THE INPUT: true; the input reads as it did. -/
def fnExactSameFlashSpec : ChangeSpec := { name := "fnExactSameFlash", fn := fun _ => fun
  | [d1, d2] => { results := [.lit (.bool true)], args := [d1, d2] }
  | _ => none }
def fnExactSameFlashRow : OpenClaim := { program := "ythobepmlopegbaa", sum := "42ac6411b377274e946f5f9724e29b9b6f86662d6bdabc5da58f19f4e73a963b", func := "loop.example/g00563/laws.FnExactSameFlash", spec := "fnExactSameFlash", apart := false }
def FnExactSameFlashSaid : Prop := fnExactSameFlashRow.holds Try.pinned (OpenSpec.ofChange fnExactSameFlashSpec)

/-- ITS FALSE NEIGHBOUR: 'it returns false'. Refute it at one input. -/
def fnExactSameFlashWrong : ChangeSpec := { name := "fnExactSameFlash", fn := fun _ => fun
  | [d1, d2] => { results := [.lit (.bool false)], args := [d1, d2] }
  | _ => none }
def FnExactSameFlashWrongFalsely : Prop := fnExactSameFlashRow.holds Try.pinned (OpenSpec.ofChange fnExactSameFlashWrong)

/-- 'laws.FnExactPagesOf': WHATEVER THE INPUT: true; the input reads as it did. -/
def fnExactPagesOfSpec : ChangeSpec := { name := "fnExactPagesOf", fn := fun _ => fun
  | [d] => { results := [.lit (.bool true)], args := [d] }
  | _ => none }
def fnExactPagesOfRow : OpenClaim := { program := "ythobepmlopegbaa", sum := "42ac6411b377274e946f5f9724e29b9b6f86662d6bdabc5da58f19f4e73a963b", func := "loop.example/g00563/laws.FnExactPagesOf", spec := "fnExactPagesOf", apart := false }
def FnExactPagesOfSaid : Prop := fnExactPagesOfRow.holds Try.pinned (OpenSpec.ofChange fnExactPagesOfSpec)

/-- ITS FALSE NEIGHBOUR: 'it returns false'. Refute it at one input. -/
def fnExactPagesOfWrong : ChangeSpec := { name := "fnExactPagesOf", fn := fun _ => fun
  | [d] => { results := [.lit (.bool false)], args := [d] }
  | _ => none }
def FnExactPagesOfWrongFalsely : Prop := fnExactPagesOfRow.holds Try.pinned (OpenSpec.ofChange fnExactPagesOfWrong)

/-- 'laws.FnExactFlashOf': WHATEVER THE INPUT: true; the input reads as it did. -/
def fnExactFlashOfSpec : ChangeSpec := { name := "fnExactFlashOf", fn := fun _ => fun
  | [d] => { results := [.lit (.bool true)], args := [d] }
  | _ => none }
def fnExactFlashOfRow : OpenClaim := { program := "ythobepmlopegbaa", sum := "42ac6411b377274e946f5f9724e29b9b6f86662d6bdabc5da58f19f4e73a963b", func := "loop.example/g00563/laws.FnExactFlashOf", spec := "fnExactFlashOf", unfollowed := true, recurses := true, apart := false }
def FnExactFlashOfSaid : Prop := fnExactFlashOfRow.holds Try.pinned (OpenSpec.ofChange fnExactFlashOfSpec)

/-- ITS FALSE NEIGHBOUR: 'it returns false'. Refute it at one input. -/
def fnExactFlashOfWrong : ChangeSpec := { name := "fnExactFlashOf", fn := fun _ => fun
  | [d] => { results := [.lit (.bool false)], args := [d] }
  | _ => none }
def FnExactFlashOfWrongFalsely : Prop := fnExactFlashOfRow.holds Try.pinned (OpenSpec.ofChange fnExactFlashOfWrong)

/-- 'laws.FnExactSameArray': WHATEVER THE INPUT: true; the input reads as it did. -/
def fnExactSameArraySpec : ChangeSpec := { name := "fnExactSameArray", fn := fun _ => fun
  | [d1, d2] => { results := [.lit (.bool true)], args := [d1, d2] }
  | _ => none }
def fnExactSameArrayRow : OpenClaim := { program := "ythobepmlopegbaa", sum := "42ac6411b377274e946f5f9724e29b9b6f86662d6bdabc5da58f19f4e73a963b", func := "loop.example/g00563/laws.FnExactSameArray", spec := "fnExactSameArray", apart := false }
def FnExactSameArraySaid : Prop := fnExactSameArrayRow.holds Try.pinned (OpenSpec.ofChange fnExactSameArraySpec)

/-- ITS FALSE NEIGHBOUR: 'it returns false'. Refute it at one input. -/
def fnExactSameArrayWrong : ChangeSpec := { name := "fnExactSameArray", fn := fun _ => fun
  | [d1, d2] => { results := [.lit (.bool false)], args := [d1, d2] }
  | _ => none }
def FnExactSameArrayWrongFalsely : Prop := fnExactSameArrayRow.holds Try.pinned (OpenSpec.ofChange fnExactSameArrayWrong)

/-- 'laws.FnExactHexByte': WHATEVER THE INPUT: true; the input reads as it did. -/
def fnExactHexByteSpec : ChangeSpec := { name := "fnExactHexByte", fn := fun _ => fun
  | [d] => { results := [.lit (.bool true)], args := [d] }
  | _ => none }
def fnExactHexByteRow : OpenClaim := { program := "ythobepmlopegbaa", sum := "42ac6411b377274e946f5f9724e29b9b6f86662d6bdabc5da58f19f4e73a963b", func := "loop.example/g00563/laws.FnExactHexByte", spec := "fnExactHexByte", apart := false }
def FnExactHexByteSaid : Prop := fnExactHexByteRow.holds Try.pinned (OpenSpec.ofChange fnExactHexByteSpec)

/-- ITS FALSE NEIGHBOUR: 'it returns false'. Refute it at one input. -/
def fnExactHexByteWrong : ChangeSpec := { name := "fnExactHexByte", fn := fun _ => fun
  | [d] => { results := [.lit (.bool false)], args := [d] }
  | _ => none }
def FnExactHexByteWrongFalsely : Prop := fnExactHexByteRow.holds Try.pinned (OpenSpec.ofChange fnExactHexByteWrong)

/-- 'laws.FnExactByteHex': WHATEVER THE INPUT: true; the input reads as it did. -/
def fnExactByteHexSpec : ChangeSpec := { name := "fnExactByteHex", fn := fun _ => fun
  | [d] => { results := [.lit (.bool true)], args := [d] }
  | _ => none }
def fnExactByteHexRow : OpenClaim := { program := "ythobepmlopegbaa", sum := "42ac6411b377274e946f5f9724e29b9b6f86662d6bdabc5da58f19f4e73a963b", func := "loop.example/g00563/laws.FnExactByteHex", spec := "fnExactByteHex", unfollowed := true, recurses := true, apart := false }
def FnExactByteHexSaid : Prop := fnExactByteHexRow.holds Try.pinned (OpenSpec.ofChange fnExactByteHexSpec)

/-- ITS FALSE NEIGHBOUR: 'it returns false'. Refute it at one input. -/
def fnExactByteHexWrong : ChangeSpec := { name := "fnExactByteHex", fn := fun _ => fun
  | [d] => { results := [.lit (.bool false)], args := [d] }
  | _ => none }
def FnExactByteHexWrongFalsely : Prop := fnExactByteHexRow.holds Try.pinned (OpenSpec.ofChange fnExactByteHexWrong)

/- THE SECOND FORM. 'bulk': how many values and letters a reading holds, each counted each time it is reached (what is shared counts as often as it is met; a slice's spare places count too). A statement '..UptoSaid' is the law's where the arguments, and the package variables that the reading takes, are together of bulk at most 1048576: NARROWER than '..Said'. Prove '..Said' where nothing that the law and all that it calls make is longer than what came in: it says more and counts as full. Else prove '..UptoSaid'. A law counts once. -/
mutual
def uptoBulk {H : Type} : DataW H → Nat
  | .lit (.string bytes) => bytes.length + 1
  | .lit _ => 1
  | .nil => 1
  | .ptr d => uptoBulk d + 1
  | .slice elems spare => uptoBulkAll elems + uptoBulkAll spare + 1
  | .agg parts => uptoBulkAll parts + 1
  | .iface _ d => uptoBulk d + 1
  | .map entries => uptoBulkEntries entries + 1
  | .held _ => 1
def uptoBulkAll {H : Type} : List (DataW H) → Nat
  | [] => 0
  | d :: r => uptoBulk d + uptoBulkAll r
def uptoBulkEntries {H : Type} : List (Lit × DataW H) → Nat
  | [] => 0
  | x :: r => uptoBulkEntry x + uptoBulkEntries r
def uptoBulkEntry {H : Type} : Lit × DataW H → Nat
  | (.string bytes, d) => bytes.length + uptoBulk d + 1
  | (_, d) => uptoBulk d + 1
 end
def uptoSmall : (H : Type) → List (DataW H) → Bool := fun _ ds => decide (uptoBulkAll ds ≤ 1048576)
def OpenSpec.upto (s : _root_.Go.ChangeSpec) : _root_.Go.OpenSpec := { _root_.Go.OpenSpec.ofChange s with cond := some uptoSmall }

/-- 'laws.FnImage', WHERE WHAT IT READS IS OF BULK AT MOST 1048576: true; the input reads as it did. -/
def fnImageUptoRow : OpenClaim := { program := "ythobepmlopegbaa", sum := "42ac6411b377274e946f5f9724e29b9b6f86662d6bdabc5da58f19f4e73a963b", func := "loop.example/g00563/laws.FnImage", spec := "fnImage", unfollowed := true, recurses := true, apart := false, narrowed := true }
def FnImageUptoSaid : Prop := fnImageUptoRow.holds Try.pinned (OpenSpec.upto fnImageSpec)

/-- 'laws.FnExactSameFlash', WHERE WHAT IT READS IS OF BULK AT MOST 1048576: true; the input reads as it did. -/
def fnExactSameFlashUptoRow : OpenClaim := { program := "ythobepmlopegbaa", sum := "42ac6411b377274e946f5f9724e29b9b6f86662d6bdabc5da58f19f4e73a963b", func := "loop.example/g00563/laws.FnExactSameFlash", spec := "fnExactSameFlash", apart := false, narrowed := true }
def FnExactSameFlashUptoSaid : Prop := fnExactSameFlashUptoRow.holds Try.pinned (OpenSpec.upto fnExactSameFlashSpec)

/-- 'laws.FnExactPagesOf', WHERE WHAT IT READS IS OF BULK AT MOST 1048576: true; the input reads as it did. -/
def fnExactPagesOfUptoRow : OpenClaim := { program := "ythobepmlopegbaa", sum := "42ac6411b377274e946f5f9724e29b9b6f86662d6bdabc5da58f19f4e73a963b", func := "loop.example/g00563/laws.FnExactPagesOf", spec := "fnExactPagesOf", apart := false, narrowed := true }
def FnExactPagesOfUptoSaid : Prop := fnExactPagesOfUptoRow.holds Try.pinned (OpenSpec.upto fnExactPagesOfSpec)

/-- 'laws.FnExactFlashOf', WHERE WHAT IT READS IS OF BULK AT MOST 1048576: true; the input reads as it did. -/
def fnExactFlashOfUptoRow : OpenClaim := { program := "ythobepmlopegbaa", sum := "42ac6411b377274e946f5f9724e29b9b6f86662d6bdabc5da58f19f4e73a963b", func := "loop.example/g00563/laws.FnExactFlashOf", spec := "fnExactFlashOf", unfollowed := true, recurses := true, apart := false, narrowed := true }
def FnExactFlashOfUptoSaid : Prop := fnExactFlashOfUptoRow.holds Try.pinned (OpenSpec.upto fnExactFlashOfSpec)

/-- 'laws.FnExactSameArray', WHERE WHAT IT READS IS OF BULK AT MOST 1048576: true; the input reads as it did. -/
def fnExactSameArrayUptoRow : OpenClaim := { program := "ythobepmlopegbaa", sum := "42ac6411b377274e946f5f9724e29b9b6f86662d6bdabc5da58f19f4e73a963b", func := "loop.example/g00563/laws.FnExactSameArray", spec := "fnExactSameArray", apart := false, narrowed := true }
def FnExactSameArrayUptoSaid : Prop := fnExactSameArrayUptoRow.holds Try.pinned (OpenSpec.upto fnExactSameArraySpec)

/-- 'laws.FnExactHexByte', WHERE WHAT IT READS IS OF BULK AT MOST 1048576: true; the input reads as it did. -/
def fnExactHexByteUptoRow : OpenClaim := { program := "ythobepmlopegbaa", sum := "42ac6411b377274e946f5f9724e29b9b6f86662d6bdabc5da58f19f4e73a963b", func := "loop.example/g00563/laws.FnExactHexByte", spec := "fnExactHexByte", apart := false, narrowed := true }
def FnExactHexByteUptoSaid : Prop := fnExactHexByteUptoRow.holds Try.pinned (OpenSpec.upto fnExactHexByteSpec)

/-- 'laws.FnExactByteHex', WHERE WHAT IT READS IS OF BULK AT MOST 1048576: true; the input reads as it did. -/
def fnExactByteHexUptoRow : OpenClaim := { program := "ythobepmlopegbaa", sum := "42ac6411b377274e946f5f9724e29b9b6f86662d6bdabc5da58f19f4e73a963b", func := "loop.example/g00563/laws.FnExactByteHex", spec := "fnExactByteHex", unfollowed := true, recurses := true, apart := false, narrowed := true }
def FnExactByteHexUptoSaid : Prop := fnExactByteHexUptoRow.holds Try.pinned (OpenSpec.upto fnExactByteHexSpec)

end Rows
end Go.Proofs.Ythobepmlopegbaa
