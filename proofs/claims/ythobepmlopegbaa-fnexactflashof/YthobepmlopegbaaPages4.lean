/- Contracts of blockPage, guardPage, l04Pages and both PagesOf: the image of a flash. -/
import Derived.Test.YthobepmlopegbaaHex
import Derived.Test.YthobepmlopegbaaAppNew
import Derived.Test.YthobepmlopegbaaApp
import Derived.Test.YthobepmlopegbaaOpenBytes
import Derived.Laws.MakeOwn
namespace Go.Proofs.Ythobepmlopegbaa
open Go.RowKit

/-- The digits of these bytes. -/
def hexCat (zs : List Int) : List UInt8 := zs.flatMap fun z => [hx (z.toNat / 16), hx (z.toNat % 16)]
theorem hexCat_app (a b : List Int) : hexCat (a ++ b) = hexCat a ++ hexCat b := by simp [hexCat]
theorem hexCat_one (n : Nat) : hexCat [(n : Int)] = [hx (n / 16), hx (n % 16)] := by simp [hexCat]
theorem hexCat_len (zs : List Int) : (hexCat zs).length = 2 * zs.length := by
  induction zs with
  | nil => rfl
  | cons z l ih => rw [show z :: l = [z] ++ l from rfl, hexCat_app, List.length_append, ih]; simp [hexCat]; omega
/-- The bytes of a block. -/
def blockL (zs : List Int) (b : Nat) : List Int := (zs.drop (16 * b)).take 16
def pageB (zs : List Int) (b : Nat) : ByteArray := bs (hexCat (blockL zs b))
def gch (g : Bool) : UInt8 := if g then 49 else 48
def guardB (gs : List Bool) : ByteArray := bs (gs.map gch)
/-- A flash's pages. -/
def pagesL (zs : List Int) (gs : List Bool) : List ByteArray := (List.range 16).map (pageB zs) ++ [guardB gs]

theorem hex_next (l : List Int) (n : Nat) : bs (hexCat l) ++ hex2 n = bs (hexCat (l ++ [(n : Int)])) := by
  rw [hexCat_app, hexCat_one, ← bs_app]; rfl

theorem block_at (zs : List Int) (b k : Nat) (_hl : zs.length = 256) (_hb : b < 16) (hk : k < 16) : (blockL zs b).getD k 0 = zs.getD (b * 16 + k) 0 := by
  unfold blockL
  simp only [List.getD_eq_getElem?_getD, List.getElem?_take, List.getElem?_drop, if_pos hk]
  rw [show 16 * b + k = b * 16 + k by omega]
theorem block_len (zs : List Int) (b : Nat) (hl : zs.length = 256) (hb : b < 16) : (blockL zs b).length = 16 := by unfold blockL; simp; omega
theorem block_next (zs : List Int) (b k : Nat) (hl : zs.length = 256) (hb : b < 16) (hk : k < 16) : (blockL zs b).take k ++ [zs.getD (b * 16 + k) 0] = (blockL zs b).take (k + 1) := by
  have h := block_len zs b hl hb
  rw [← block_at zs b k hl hb hk, List.take_succ_eq_append_getElem (by omega), List.getD_eq_getElem?_getD, List.getElem?_eq_getElem (by omega), Option.getD_some]

set_option maxRecDepth 100000 in
set_option maxHeartbeats 1000000 in
theorem blockPage (A C : Option Addr) (c m d : Nat) (st : Int) (zs : List Int) (b : Nat) (w : World) (hl : zs.length = 256) (hz : ∀ z ∈ zs, 0 ≤ z ∧ z ≤ 255) (hc : 256 ≤ c) (hb : b < 16) (h : IntL w A zs) :
    Calls Try.prog 38 #[.agg #[.slice A 256 c, .slice C m d, .int .i64 st], .int .i64 (b : Int)] w fun e w' => e = .returned (.string (pageB zs b)) ∧ Below w.heap.size w w' := by
  have hb0 := alloc_below w (.cells #[.slice A 256 c, .slice C m d, .int .i64 st] 26)
  obtain ⟨B, off, rfl, _⟩ := h 0 (by omega)
  have HA : Hid (∀ k, k < 256 → ∃ z : Nat, z ≤ 255 ∧ zs.getD k 0 = z ∧ w.cell? ⟨B, off + k, none⟩ = some (.int .i64 (z : Int))) := Lib.hid (by
    intro k hk
    obtain ⟨B', off', e, hc'⟩ := h k (by omega)
    injection e with e; injection e with e1 e2
    have hm : zs.getD k 0 ∈ zs := by
      rw [List.getD_eq_getElem?_getD, List.getElem?_eq_getElem (by omega), Option.getD_some]; exact List.getElem_mem _
    have := hz _ hm
    refine ⟨(zs.getD k 0).toNat, by omega, by omega, ?_⟩
    rw [show (((zs.getD k 0).toNat : Nat) : Int) = zs.getD k 0 by omega, e1, e2]
    exact hc')
  have HL := Lib.hid hl
  have e1 : IntKind.i64.wrap ((b : Int) * 16) = (b : Int) * 16 := IntWalk.i64_in _ (by omega)
  have e2 : IntKind.i64.wrap ((b : Int) + 1) = (b : Int) + 1 := IntWalk.i64_in _ (by omega)
  have e3 : IntKind.i64.wrap (((b : Int) + 1) * 16) = ((b : Int) + 1) * 16 := IntWalk.i64_in _ (by omega)
  clear hl hz h
  go_enter Try.func38, Try.ntmps38
  go_wp2
  rw [show (b + 1) * 16 - b * 16 = 16 by omega]
  go_loopw [5, 17] (fun t i wr => ∃ k : Nat, k ≤ 16 ∧ t = .string (bs (hexCat ((blockL zs b).take k))) ∧ i = .int .i64 (k : Int) ∧ Below w.heap.size w wr) (fun _ i _ => 16 - (intOf i).toNat)
  case atStart => exact ⟨0, by omega, rfl, rfl, hb0⟩
  case round =>
    obtain ⟨k, hk, rfl, rfl, hbw⟩ := hrel
    by_cases hlt : k < 16
    · obtain ⟨z, hz, hg, hc'⟩ := HA.out (b * 16 + k) (by omega)
      have HN : Hid (bs (hexCat ((blockL zs b).take k)) ++ hex2 z = bs (hexCat ((blockL zs b).take (k + 1)))) := Lib.hid (by
        rw [hex_next, ← hg, block_next zs b k HL.out hb hlt])
      have hc2 : wr.cell? ⟨B, off + b * 16 + k, none⟩ = some (.int .i64 (z : Int)) := by
        rw [show off + b * 16 + k = off + (b * 16 + k) by omega]; exact (hbw.cell (cell_lt hc')).trans hc'
      have hnl : ¬ 9223372036854775807 < (bs (hexCat ((blockL zs b).take k))).size + (hex2 z).size := by
        rw [bs_size, hexCat_len, hex2_size]; simp; omega
      have HX := Lib.hid (fun W => hexText z hz W)
      generalize bs (hexCat ((blockL zs b).take k)) = t at HN hnl
      generalize hex2 z = u at HN hnl HX
      have hi : (k : Int) < 16 := by omega
      clear hg hc'
      go_wp2_with fail
      refine (HX.out _).mono ?_
      rintro e w2 ⟨rfl, hb2⟩
      have hb3 := bt hbw hb2
      go_wp2
      go_roundw
      case rel => first | exact ⟨k + 1, by omega, by rw [HN.out], by go_num, hb3⟩ | ((repeat apply Exists.intro); exact ⟨⟨k + 1, by omega, by rw [HN.out], by go_num, hb3⟩, rfl⟩)
      case measure => simp [intOf]; omega
    · obtain rfl : k = 16 := by omega
      have HF : Hid (bs (hexCat ((blockL zs b).take 16)) = pageB zs b) := Lib.hid (by
        unfold pageB; rw [List.take_of_length_le (by unfold blockL; simp; omega)])
      rw [HF.out]
      go_wp2
      go_ret
      exact ⟨rfl, hbw⟩

set_option maxRecDepth 100000 in
theorem infoU : (Try.prog.info? 5).map (fun i => (i.zero, i.size, i.bytes)) = some (some (.int .u8 0), 1, 1) := by kernel_rfl
theorem gch_nat (g : Bool) : ((gch g).toNat : Int) = if g then 49 else 48 := by cases g <;> rfl
theorem row_next {α : Type} (mk : α → Value) (d : α) (z : Value) {w : World} {b n k : Nat} {t : TypeId} {l : List α} {x : α} (h : w.rowIs b t n (fun i => if i = k then mk x else (fun j => if j < k then mk (l.getD j d) else z) i)) (hx : l.getD k d = x) : w.rowIs b t n (fun j => if j < k + 1 then mk (l.getD j d) else z) :=
  h.congr fun i _ => by
    by_cases e : i = k
    · subst e; rw [if_pos rfl, if_pos (by omega), hx]
    · rw [if_neg e]
      by_cases e2 : i < k
      · rw [if_pos (by omega)]; simp only; rw [if_pos e2]
      · rw [if_neg (by omega)]; simp only; rw [if_neg e2]

set_option maxRecDepth 100000 in
set_option maxHeartbeats 1000000 in
theorem guardPage (A C : Option Addr) (n c d : Nat) (st : Int) (gs : List Bool) (w : World) (hm : gs.length = 16) (g : BoolL w C gs) :
    Calls Try.prog 39 #[.agg #[.slice A n c, .slice C 16 d, .int .i64 st]] w fun e w' => e = .returned (.string (guardB gs)) ∧ Below w.heap.size w w' := by
  have hb0 := alloc_below w (.cells #[.slice A n c, .slice C 16 d, .int .i64 st] 26)
  have HM := Lib.hid hm
  have G := Lib.hid g
  have X0 := Box.new w 26 #[.slice A n c, .slice C 16 d, .int .i64 st]
  have hmk : ∀ W, (Instr.makeSlice 22 (.int .i64 16) (.int .i64 16)).run Try.prog W = .ok (.slice (some ⟨W.heap.size, 0, none⟩) 16 16) (W.alloc (.cells (madeCells #[.int .u8 0] 16) 5)) := fun W => run_make_row' (P := Try.prog) 22 5 (.int .u8 0) 1 Try.underlying22 infoU rfl .i64 .i64 16 (by omega) (by omega) W
  obtain ⟨w1, hw1⟩ : ∃ w1, w1 = (w.alloc (.cells #[.slice A n c, .slice C 16 d, .int .i64 st] 26)).alloc (.cells (madeCells #[.int .u8 0] 16) 5) := ⟨_, rfl⟩
  have hb1 : Below w.heap.size w w1 := by rw [hw1]; exact hb0.alloc (by simp) _
  have f1 : w1.cell? ⟨w.heap.size, 1, none⟩ = some (.slice C 16 d) := by rw [hw1]; exact (X0.alloc _).cell 1 rfl
  have HR : Hid (w1.rowIs (w.heap.size + 1) 5 16 (fun _ => .int .u8 0)) := Lib.hid (by rw [hw1]; simpa using World.rowIs_made (w.alloc (.cells #[.slice A n c, .slice C 16 d, .int .i64 st] 26)) (.int .u8 0) 16 5)
  have HW1 := Lib.hid hw1
  rw [hw1] at f1
  clear hm g X0 hb0 hw1
  go_enter Try.func39, Try.ntmps39
  go_wp2
  rw [← HW1.out]
  clear hmk f1
  go_loopw [10] (fun i wr => ∃ k : Nat, k ≤ 16 ∧ i = .int .i64 k ∧ Below w.heap.size w wr ∧ Hid (wr.rowIs (w.heap.size + 1) 5 16 (fun j => if j < k then (fun g => Value.int .u8 ((gch g).toNat : Int)) (gs.getD j false) else .int .u8 0))) (fun i _ => 16 - (intOf i).toNat)
  case atStart => exact ⟨0, Nat.zero_le _, rfl, hb1, Lib.hid (HR.out.congr (fun i _ => by simp))⟩
  case round =>
    clear HR hb1
    obtain ⟨k, hk, rfl, hbw, HRk⟩ := hrel
    by_cases hlt : k < 16
    · obtain ⟨b, off, rfl, hc⟩ := (G.out.below hbw) k (by rw [HM.out]; exact hlt)
      have hcd := HRk.out.cell hlt
      have hfr := HRk.out.frozen k
      simp only [Nat.lt_irrefl, if_false] at hcd
      generalize hx : gs.getD k false = x at hc
      have HX := Lib.hid hx
      clear hx
      have hi : (k : Int) < 16 := by omega
      cases x
      · have HW : Hid ((wr.setCell ⟨w.heap.size + 1, k, none⟩ (.int .u8 48)).rowIs (w.heap.size + 1) 5 16 (fun j => if j < k + 1 then (fun g => Value.int .u8 ((gch g).toNat : Int)) (gs.getD j false) else .int .u8 0)) := Lib.hid (row_next (fun g => Value.int .u8 ((gch g).toNat : Int)) false (.int .u8 0) (x := false) (HRk.out.set k (.int .u8 48)) HX.out)
        clear HRk
        go_wp2
        go_roundw
        case rel => first | exact ⟨k + 1, by omega, by go_num, hbw.setCell (by show w.heap.size ≤ w.heap.size + 1; omega) _, HW⟩ | ((repeat apply Exists.intro); exact ⟨⟨k + 1, by omega, by go_num, hbw.setCell (by show w.heap.size ≤ w.heap.size + 1; omega) _, HW⟩, rfl⟩)
        case measure => simp [intOf]; omega
      · have HW : Hid (((wr.setCell ⟨w.heap.size + 1, k, none⟩ (.int .u8 48)).setCell ⟨w.heap.size + 1, k, none⟩ (.int .u8 49)).rowIs (w.heap.size + 1) 5 16 (fun j => if j < k + 1 then (fun g => Value.int .u8 ((gch g).toNat : Int)) (gs.getD j false) else .int .u8 0)) := Lib.hid (row_next (fun g => Value.int .u8 ((gch g).toNat : Int)) false (.int .u8 0) (x := true) (((HRk.out.set k (.int .u8 48)).set k (.int .u8 49)).congr (fun i _ => by by_cases e : i = k <;> simp [e]; rfl)) HX.out)
        clear HRk
        go_wp2
        go_roundw
        case rel => first | exact ⟨k + 1, by omega, by go_num, (hbw.setCell (by show w.heap.size ≤ w.heap.size + 1; omega) _).setCell (by show w.heap.size ≤ w.heap.size + 1; omega) _, HW⟩ | ((repeat apply Exists.intro); exact ⟨⟨k + 1, by omega, by go_num, (hbw.setCell (by show w.heap.size ≤ w.heap.size + 1; omega) _).setCell (by show w.heap.size ≤ w.heap.size + 1; omega) _, HW⟩, rfl⟩)
        case measure => simp [intOf]; omega
    · obtain rfl : k = 16 := by omega
      have hcv : (convert 22 9 (.slice (some ⟨w.heap.size + 1, 0, none⟩) 16 16)).run Try.prog wr = .ok (.string (guardB gs)) wr := by
        have := run_convert_bytes_back (P := Try.prog) wr 22 9 5 ⟨w.heap.size + 1, 0, none⟩ 16 (gs.map gch) Try.underlying22 Try.underlying5 Try.underlying9 (fun i hi => by
          have hi' : i < 16 := by simpa [HM.out] using hi
          have h2 := HRk.out.cell hi'
          rw [if_pos hi'] at h2
          rw [addr_add, Nat.zero_add, h2]
          simp only [List.getElem_map, List.getD_eq_getElem?_getD]
          rw [List.getElem?_eq_getElem (by have := HM.out; omega), Option.getD_some])
        rw [List.length_map, HM.out] at this
        exact this
      clear HRk
      go_wp2
      go_ret
      exact ⟨rfl, hbw⟩
end Go.Proofs.Ythobepmlopegbaa
