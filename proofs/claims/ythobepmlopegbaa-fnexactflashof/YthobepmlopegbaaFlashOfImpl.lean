/- Contracts of readCells, readGuard and impl.FlashOf. -/
import Derived.Test.YthobepmlopegbaaReadPage
import Derived.Test.YthobepmlopegbaaPages
import Derived.Test.YthobepmlopegbaaApp
import Derived.Test.YthobepmlopegbaaAppNew
import Derived.Test.YthobepmlopegbaaGenC
import Derived.Test.YthobepmlopegbaaFlashSpec
namespace Go.Proofs.Ythobepmlopegbaa
open Go.RowKit

/-- The bytes of these pages. -/
def cellsP : List ByteArray → Option (List Int)
  | [] => some []
  | p :: ps => match page2 hexL p with
    | none => none
    | some a => (cellsP ps).map (a ++ ·)
theorem cellsP_len : ∀ {ps : List ByteArray} {r : List Int}, cellsP ps = some r → r.length = 16 * ps.length
  | [], r, h => by simp [cellsP] at h; subst h; rfl
  | p :: ps, r, h => by
    unfold cellsP at h
    split at h
    · cases h
    · rename_i a ha
      cases hp : cellsP ps with
      | none => rw [hp] at h; cases h
      | some r' =>
        rw [hp] at h; simp at h; subst h
        have h1 := cellsP_len hp
        unfold page2 at ha
        split at ha
        · have := pageNums_len ha; simp; omega
        · cases ha
theorem optmap_app2 (o : Option (List Int)) (a b : List Int) : (o.map (b ++ ·)).map (a ++ ·) = o.map ((a ++ b) ++ ·) := by cases o <;> simp
theorem OwnI.cells {w : World} {lo hi : Nat} {A : Option Addr} {zs : List Int} (h : OwnI w lo hi A zs) (hn : 0 < zs.length) : ∃ b, A = some ⟨b, 0, none⟩ ∧ ∀ j u, (zs.map (Value.int .i64))[j]? = some u → w.cell? ((⟨b, 0, none⟩ : Addr).add j) = some u := by
  rcases h with rfl | ⟨b, m, f, rfl, _, _, hm, hr, hf⟩
  · simp at hn
  · refine ⟨b, rfl, fun j u hj => ?_⟩
    have hj' : j < zs.length := by
      have := (List.getElem?_eq_some_iff.1 hj).1
      simpa using this
    rw [addr_add, Nat.zero_add, hr.cell (by omega), hf j hj']
    rw [List.getElem?_map, List.getElem?_eq_getElem hj'] at hj
    simp only [Option.map_some, Option.some.injEq] at hj
    rw [← hj, List.getD_eq_getElem?_getD, List.getElem?_eq_getElem hj', Option.getD_some]

set_option maxRecDepth 100000 in
set_option maxHeartbeats 4000000 in
theorem readCells (A : Option Addr) (c : Nat) (ss : List ByteArray) (w : World) (hl : ss.length = 16) (h : StrL w A ss) (fs : FitS ss) :
    Calls Try.prog 43 #[.slice A 16 c] w fun e w' =>
      ((cellsP ss = none ∧ e = .returned (.tuple #[.slice none 0 0, .bool false])) ∨ (∃ r A c, cellsP ss = some r ∧ e = .returned (.tuple #[.slice A 256 c, .bool true]) ∧ Hid (OwnI w' w.heap.size w'.heap.size A r) ∧ r.length = 256)) ∧ Below w.heap.size w w' := by
  have HL := Lib.hid hl
  have H := Lib.hid h
  have HFt := Lib.hid fs
  have HP : Hid (cellsP ss = cellsP ss) := Lib.hid rfl
  generalize hres : cellsP ss = res at HP ⊢
  have HR0 := Lib.hid hres
  clear hl h fs hres HP
  go_enter Try.func43, Try.ntmps43
  go_wp2
  go_loopw [4, 11] (fun v i wr => ∃ (k : Nat) (A' : Option Addr) (c' : Nat) (acc : List Int), k ≤ 16 ∧ v = .slice A' (16 * k) c' ∧ i = .int .i64 k ∧ acc.length = 16 * k ∧ Below w.heap.size w wr ∧ Hid (wr.ownsRow w.heap.size 3 1 (.slice A' (16 * k) c') (16 * k) (acc.map (Value.int .i64))) ∧ Hid (res = (cellsP (ss.drop k)).map (acc ++ ·))) (fun _ i _ => 16 - (intOf i).toNat)
  case atStart => exact ⟨0, none, 0, [], by omega, rfl, rfl, rfl, Below.refl _ _, Lib.hid (rowv_nil _ _ _ _), Lib.hid (by rw [← HR0.out]; simp)⟩
  case round =>
    obtain ⟨k, A', c', acc, hk, rfl, rfl, hacc, hbw, G, HT⟩ := hrel
    by_cases hlt : k < 16
    · have hi : (k : Int) < 16 := by omega
      obtain ⟨b, off, rfl, hc⟩ := (H.out.below hbw) k (by rw [HL.out]; exact hlt)
      have hm : ss.getD k ByteArray.empty ∈ ss := by
        rw [List.getD_eq_getElem?_getD, List.getElem?_eq_getElem (by rw [HL.out]; exact hlt), Option.getD_some]; exact List.getElem_mem _
      have HN : Hid (cellsP (ss.drop k) = match page2 hexL (ss.getD k ByteArray.empty) with | none => none | some a => (cellsP (ss.drop (k + 1))).map (a ++ ·)) := Lib.hid (by
        have hk' : k < ss.length := by rw [HL.out]; exact hlt
        rw [List.drop_eq_getElem_cons hk', cellsP, List.getD_eq_getElem?_getD, List.getElem?_eq_getElem hk', Option.getD_some])
      have HC := Lib.hid (readPage2 (ss.getD k ByteArray.empty) hexB wr hexL_low (by decide) (HFt.out _ hm))
      rw [hexB_list] at HC
      generalize ss.getD k ByteArray.empty = s at hc HN HC
      have HX : Hid (hexB = ⟨#[48, 49, 50, 51, 52, 53, 54, 55, 56, 57, 97, 98, 99, 100, 101, 102]⟩) := Lib.hid rfl
      rw [HX.out] at HC
      clear hm HX
      go_wp2_with fail
      refine HC.out.mono ?_
      rintro e w2 ⟨hres, hb2⟩
      have hbz := bt hbw hb2
      rcases hres with ⟨hp, rfl⟩ | ⟨a, A2, c2, hp, rfl, O2, hal⟩
      · have HF : Hid (res = none) := Lib.hid (by rw [HT.out, HN.out, hp]; rfl)
        clear hp
        go_wp2
        refine bodyPost_ret (v := .tuple #[.slice none 0 0, .bool false]) (by simp [results, Try.results43, go_sem]) rfl ?_
        exact ⟨.inl ⟨HF.out, rfl⟩, hbz⟩
      · obtain ⟨ab, rfl, hcs⟩ := O2.out.cells (by omega)
        have HT2 : Hid (res = (cellsP (ss.drop (k + 1))).map ((acc ++ a) ++ ·)) := Lib.hid (by rw [HT.out, HN.out, hp]; simp only; rw [optmap_app2])
        have G2 := Lib.hid (rowv_below G.out hb2)
        have HCs := Lib.hid hcs
        have HAl := Lib.hid hal
        have HAcc := Lib.hid hacc
        have hszw : w.heap.size ≤ w2.heap.size := hbz.size
        clear hp hcs G hc hb2 hal hacc
        go_wp2_with (at_builtin; refine wpList_app_many rfl (.tmp 22) (.tmp 23) 23 3 rfl (.int .i64 0) 1 8 elemInt Try.underlying23 w.heap.size (.slice A' (16 * k) c') (16 * k) (acc.map (Value.int .i64)) rfl ?hown ⟨ab, 0, none⟩ 16 c2 rfl (a.map (Value.int .i64)) ?hlen ?hnews ?hone ?h63 ?hby ?hbase ?_)
        case hown => exact G2.out
        case hlen => rw [List.length_map, HAl.out]
        case hnews => exact HCs.out
        case hone => intro u hu; rw [List.mem_map] at hu; obtain ⟨z, _, rfl⟩ := hu; rfl
        case h63 => unfold maxLen; omega
        case hby => omega
        case hbase => exact hszw
        intro A3 c3 w3 hR3 hc3 hg3 hb3
        have hbq : Below w.heap.size w w3 := hbz.trans hb3
        have HR3 : Hid (w3.ownsRow w.heap.size 3 1 (.slice A3 (16 * (k + 1)) c3) (16 * (k + 1)) ((acc ++ a).map (Value.int .i64))) := Lib.hid (by rw [List.map_append, show 16 * (k + 1) = 16 * k + 16 by omega]; exact hR3)
        have HLn : Hid ((acc ++ a).length = 16 * (k + 1)) := Lib.hid (by rw [List.length_append, HAcc.out, HAl.out]; omega)
        clear hR3 hc3 hg3 hb3 G2 HCs hbz hbw
        go_wp2
        go_roundw
        case rel => first | exact ⟨k + 1, A3, c3, acc ++ a, by omega, by rw [show 16 * (k + 1) = 16 * k + 16 by omega], by go_num, HLn.out, hbq, HR3, HT2⟩ | ((repeat apply Exists.intro); exact ⟨⟨k + 1, A3, c3, acc ++ a, by omega, by rw [show 16 * (k + 1) = 16 * k + 16 by omega], by go_num, HLn.out, hbq, HR3, HT2⟩, rfl⟩)
        case measure => simp [intOf]; omega
    · obtain rfl : k = 16 := by omega
      have HF : Hid (res = some acc) := Lib.hid (by rw [HT.out, List.drop_eq_nil_of_le (by rw [HL.out]; omega)]; simp [cellsP])
      have HG : Hid (GroI wr w.heap.size (.slice A' 256 c') acc) := Lib.hid (by unfold GroI; rw [hacc]; exact G.out)
      have HA := Lib.hid hacc
      clear hacc G HT
      go_wp2
      refine bodyPost_ret (v := .tuple #[.slice A' 256 c', .bool true]) (by simp [results, Try.results43, go_sem]) rfl ?_
      exact ⟨.inr ⟨acc, _, _, HF.out, rfl, Lib.hid (HG.out.own (Nat.le_refl _)), HA.out⟩, hbw⟩

def binL : List UInt8 := [48, 49]
def binB : ByteArray := ⟨#[48, 49]⟩
/-- The protection that a page says. -/
def guardP (t : ByteArray) : Option (List Bool) := (page1 binL t).map (·.map (fun z => decide (z = 1)))
theorem guardP_len {t : ByteArray} {r : List Bool} (h : guardP t = some r) : r.length = 16 := by
  unfold guardP page1 at h
  split at h
  · cases hp : pageNums binL 1 16 t.data.toList with
    | none => rw [hp] at h; cases h
    | some r' => rw [hp] at h; simp at h; subst h; simp [pageNums_len hp]
  · cases h

set_option maxRecDepth 100000 in
set_option maxHeartbeats 4000000 in
theorem readGuard (t : ByteArray) (w : World) (ht : t.size ≤ maxLen) :
    Calls Try.prog 44 #[.string t] w fun e w' =>
      ((guardP t = none ∧ e = .returned (.tuple #[.slice none 0 0, .bool false])) ∨ (∃ r A c, guardP t = some r ∧ e = .returned (.tuple #[.slice A 16 c, .bool true]) ∧ Hid (OwnB w' w.heap.size w'.heap.size A r) ∧ r.length = 16)) ∧ Below w.heap.size w w' := by
  have HC := Lib.hid (readPage1 t binB w (by decide) (by decide) ht)
  have HB : Hid (binB = ⟨#[48, 49]⟩ ∧ binB.data.toList = binL) := Lib.hid ⟨rfl, rfl⟩
  rw [HB.out.2, HB.out.1] at HC
  have HG : Hid (guardP t = (page1 binL t).map (·.map (fun z => decide (z = 1)))) := Lib.hid rfl
  generalize guardP t = res at HG ⊢
  generalize page1 binL t = o at HC HG
  have hmk : ∀ W, (Instr.makeSlice 24 (.int .i64 16) (.int .i64 16)).run Try.prog W = .ok (.slice (some ⟨W.heap.size, 0, none⟩) 16 16) (W.alloc (.cells (madeCells #[.bool false] 16) 4)) := fun W => run_make_row' (P := Try.prog) 24 4 (.bool false) 1 Try.underlying24 infoB rfl .i64 .i64 16 (by omega) (by omega) W
  clear HB ht
  go_enter Try.func44, Try.ntmps44
  go_wp2_with fail
  refine HC.out.mono ?_
  rintro e w1 ⟨hres, hb1⟩
  rcases hres with ⟨hp, rfl⟩ | ⟨a, A2, c2, hp, rfl, O2, hal⟩
  · have HF : Hid (res = none) := Lib.hid (by rw [HG.out, hp]; rfl)
    clear hp hmk
    go_wp2
    refine bodyPost_ret (v := .tuple #[.slice none 0 0, .bool false]) (by simp [results, Try.results44, go_sem]) rfl ?_
    exact ⟨.inl ⟨HF.out, rfl⟩, hb1⟩
  · have HF : Hid (res = some (a.map (fun z => decide (z = 1)))) := Lib.hid (by rw [HG.out, hp]; rfl)
    have HAl := Lib.hid hal
    have HR : Hid ((w1.alloc (.cells (madeCells #[.bool false] 16) 4)).rowIs w1.heap.size 4 16 (fun _ => .bool false)) := Lib.hid (World.rowIs_made w1 (.bool false) 16 4)
    have hba := alloc_below w1 (.cells (madeCells #[.bool false] 16) 4)
    have HI : Hid (OwnI (w1.alloc (.cells (madeCells #[.bool false] 16) 4)) w.heap.size w1.heap.size A2 a) := Lib.hid (O2.out.below hba)
    have hb2 := bt hb1 hba
    clear hp hal O2
    go_wp2
    clear hmk hba
    obtain ⟨w2, hw2⟩ : ∃ w2, w2 = w1.alloc (.cells (madeCells #[.bool false] 16) 4) := ⟨_, rfl⟩
    have hw12 : w1.heap.size < w2.heap.size := by rw [hw2]; simp
    rw [← hw2] at HR HI hb2 ⊢
    have hsz1 : w.heap.size ≤ w1.heap.size := hb1.size
    obtain ⟨g, hg⟩ : ∃ g, g = w1.heap.size := ⟨_, rfl⟩
    rw [← hg] at HR HI hw12 hsz1 ⊢
    clear hw2 hg hb1
    go_loopw [19] (fun i wr => ∃ k : Nat, k ≤ 16 ∧ i = .int .i64 k ∧ Below w.heap.size w wr ∧ Hid (OwnI wr w.heap.size g A2 a) ∧ Hid (wr.rowIs g 4 16 (fun j => if j < k then (fun z => Value.bool (decide (z = 1))) (a.getD j 0) else .bool false))) (fun i _ => 16 - (intOf i).toNat)
    case atStart => exact ⟨0, by omega, rfl, hb2, HI, Lib.hid (HR.out.congr (fun i _ => by simp))⟩
    case round =>
      clear HR HI hb2
      obtain ⟨k, hk, rfl, hbw, HI, HRk⟩ := hrel
      by_cases hlt : k < 16
      · obtain ⟨b, off, e0, hc0⟩ := HI.out.reads k (by rw [HAl.out]; exact hlt)
        have HI2 := Lib.hid (fun u => HI.out.other HRk.out (by decide) k u)
        subst e0
        have hcd := HRk.out.cell hlt
        have hfr := HRk.out.frozen k
        simp only [Nat.lt_irrefl, if_false] at hcd
        have hi : (k : Int) < 16 := by omega
        have HRn := Lib.hid (fun (x : Int) (hx : a.getD k 0 = x) => row_next (fun z => Value.bool (decide (z = 1))) 0 (.bool false) (x := x) (HRk.out.set k (.bool (decide (x = 1)))) hx)
        have HRn2 := Lib.hid (HRn.out _ rfl)
        generalize a.getD k 0 = x at hc0 HRn2
        have hq : (x == 1) = decide (x = 1) := by rw [Bool.eq_iff_iff]; simp
        have hbs := hbw.setCell (p := ⟨g, k, none⟩) (by show w.heap.size ≤ g; omega) (.bool (decide (x = 1)))
        generalize decide (x = 1) = q at hq HRn2 hbs
        have HI3 := Lib.hid (HI2.out (.bool q))
        clear HI HI2 HRk HRn hbw
        go_wp2
        go_roundw
        case rel => first | exact ⟨k + 1, by omega, by go_num, hbs, HI3, HRn2⟩ | ((repeat apply Exists.intro); exact ⟨⟨k + 1, by omega, by go_num, hbs, HI3, HRn2⟩, rfl⟩)
        case measure => simp [intOf]; omega
      · obtain rfl : k = 16 := by omega
        have HO : Hid (OwnB wr w.heap.size wr.heap.size (some ⟨g, 0, none⟩) (a.map (fun z => decide (z = 1)))) := Lib.hid (.inr ⟨g, 16, _, rfl, hsz1, HRk.out.lt, by rw [List.length_map, HAl.out]; omega, HRk.out, fun i hi' => by
          have hi2 : i < 16 := by rw [List.length_map, HAl.out] at hi'; exact hi'
          rw [if_pos hi2]
          simp only [List.getD_eq_getElem?_getD, List.getElem?_map]
          rw [List.getElem?_eq_getElem (by rw [HAl.out]; exact hi2)]
          rfl⟩)
        have HLn : Hid ((a.map (fun z => decide (z = 1))).length = 16) := Lib.hid (by rw [List.length_map, HAl.out])
        generalize a.map (fun z => decide (z = 1)) = r at HF HO HLn
        clear HRk HI
        go_wp2
        refine bodyPost_ret (v := .tuple #[.slice (some ⟨g, 0, none⟩) 16 16, .bool true]) (by simp [results, Try.results44, go_sem]) rfl ?_
        exact ⟨.inr ⟨r, _, _, HF.out, rfl, HO, HLn.out⟩, hbw⟩

/-- What FlashOf answers: bytes, protection, code. -/
def flashOf (ss : List ByteArray) : List Int × List Bool × Int :=
  if pagesC ss ≠ 0 then ([], [], pagesC ss) else match cellsP (ss.take 16), guardP (ss.getD 16 ByteArray.empty) with
    | some z, some g => (z, g, 0)
    | _, _ => ([], [], 3)
def flashSt (_ss : List ByteArray) : Int := 0
theorem pagesC_len {ss : List ByteArray} (h : pagesC ss = 0) : ss.length = 17 := by
  unfold pagesC at h
  split at h
  · cases h
  · split at h
    · cases h
    · omega
theorem flashOf_len (ss : List ByteArray) : lenA [Lf.I (flashOf ss).1, Lf.B (flashOf ss).2.1] ≤ 4294967296 := by
  unfold flashOf
  split
  · simp [lenA, Lf.len]
  · split
    · rename_i z g hz hg
      have := cellsP_len hz
      have := guardP_len hg
      have : (ss.take 16).length ≤ 16 := by simp; omega
      simp only [lenA, Lf.len]; omega
    · simp [lenA, Lf.len]
/-- The call hands back what FlashOf answers. -/
def GivesFlashOf (ss : List ByteArray) (w : World) (e : Ending) (w' : World) : Prop :=
  ∃ rA0 rA1 rc0 rc1, e = .returned (.tuple #[.agg #[.slice rA0 (flashOf ss).1.length rc0, .slice rA1 (flashOf ss).2.1.length rc1, .int .i64 (flashSt ss)], .int .i64 (flashOf ss).2.2]) ∧ Hid (OwnA w' w.heap.size w'.heap.size [.slice rA0 (flashOf ss).1.length rc0, .slice rA1 (flashOf ss).2.1.length rc1] [.I (flashOf ss).1, .B (flashOf ss).2.1]) ∧ Below w.heap.size w w'
theorem givesNo {ss : List ByteArray} {c : Int} {w w' : World} (h : flashOf ss = ([], [], c)) (hb : Below w.heap.size w w') : GivesFlashOf ss w (.returned (.tuple #[.agg #[.slice none 0 0, .slice none 0 0, .int .i64 0], .int .i64 c])) w' := by
  unfold GivesFlashOf
  rw [h]
  exact ⟨none, none, 0, 0, rfl, Lib.hid (ownIB (.inl rfl) (.inl rfl)), hb⟩

set_option maxRecDepth 100000 in
set_option maxHeartbeats 4000000 in
theorem implFlashOfW (A : Option Addr) (n c : Nat) (ss : List ByteArray) (w : World) (hl : ss.length = n) (hn : n ≤ maxLen) (hc : n ≤ c) (h : StrL w A ss) (fs : FitS ss) :
    Calls Try.prog 13 #[.slice A n c] w (GivesFlashOf ss w) := by
  have hb0 := alloc_below w (.cells #[.slice none 0 0, .slice none 0 0, .int .i64 0] 26)
  have X0 := Lib.hid (Box.new w 26 #[.slice none 0 0, .slice none 0 0, .int .i64 0])
  have HC := Lib.hid (fun W (hb : Below w.heap.size w W) => checkPages A n c ss W hl hn (h.below hb) fs)
  by_cases hp : pagesC ss = 0
  · have hlen := pagesC_len hp
    obtain rfl : n = 17 := by omega
    rw [hp] at HC
    obtain ⟨b, off, rfl, _⟩ := h 0 (by omega)
    have HR := Lib.hid (fun W (hb : Below w.heap.size w W) => readCells (some ⟨b, off, none⟩) c (ss.take 16) W (by simp; omega) (fun i hi => by
      have hi' : i < 16 := by simp at hi; omega
      obtain ⟨b', off', e, hc'⟩ := (h.below hb) i (by omega)
      exact ⟨b', off', e, by rw [hc']; congr 2; simp [List.getD_eq_getElem?_getD, hi']⟩) (fun s hs => fs s (List.mem_of_mem_take hs)))
    have H16 : Hid (∀ W, Below w.heap.size w W → W.cell? ⟨b, off + 16, none⟩ = some (.string (ss.getD 16 ByteArray.empty))) := Lib.hid (fun W hb => by
      obtain ⟨b', off', e, hc'⟩ := (h.below hb) 16 (by omega)
      injection e with e; injection e with e1 e2
      rw [e1, e2]; exact hc')
    have HG := Lib.hid (fun W => readGuard (ss.getD 16 ByteArray.empty) W (fs _ (by
      rw [List.getD_eq_getElem?_getD, List.getElem?_eq_getElem (by omega), Option.getD_some]; exact List.getElem_mem _)))
    have HF : Hid (flashOf ss = match cellsP (ss.take 16), guardP (ss.getD 16 ByteArray.empty) with | some z, some g => (z, g, 0) | _, _ => ([], [], 3)) := Lib.hid (by unfold flashOf; rw [if_neg (by rw [hp]; decide)])
    generalize cellsP (ss.take 16) = oz at HR HF
    generalize guardP (ss.getD 16 ByteArray.empty) = og at HG HF
    generalize ss.getD 16 ByteArray.empty = s16 at H16 HG
    have hc16 : 16 ≤ c := by omega
    clear hp hlen hl hn hc h fs
    go_enter Try.func13, Try.ntmps13
    go_wp2_with fail
    refine (HC.out _ hb0).mono ?_
    rintro e w1 ⟨rfl, rfl⟩
    go_wp2_with fail
    refine (HR.out _ hb0).mono ?_
    rintro e w2 ⟨hres, hb2⟩
    have X2 := Lib.hid (X0.out.step hb2)
    have hbz := bt hb0 hb2
    have x0 := X2.out.cell 0 rfl
    have x1 := X2.out.cell 1 rfl
    have x2 := X2.out.cell 2 rfl
    have y0 := X2.out.frozen 0
    have y1 := X2.out.frozen 1
    have y2 := X2.out.frozen 2
    rcases hres with ⟨hpz, rfl⟩ | ⟨z, A2, c2, hpz, rfl, O2, hzl⟩
    · have HN : Hid (flashOf ss = ([], [], 3)) := Lib.hid (by rw [HF.out, hpz])
      clear hpz
      go_wp2
      refine bodyPost_ret (v := .tuple #[.agg #[.slice none 0 0, .slice none 0 0, .int .i64 0], .int .i64 3]) (by simp [results, Try.results13, go_sem, x0, x1, x2]) rfl ?_
      refine givesNo HN.out ?_
      exact below3 hbz (Nat.le_refl _) _ _ _
    · have h16 := H16.out w2 hbz
      have HZ := Lib.hid hpz
      have HZl := Lib.hid hzl
      clear hpz hzl x0 x1 x2 y0 y1 y2
      go_wp2_with fail
      refine (HG.out _).mono ?_
      rintro e w3 ⟨hres, hb3⟩
      have X3 := Lib.hid (X2.out.step hb3)
      have hbq := bt hbz hb3
      have x0 := X3.out.cell 0 rfl
      have x1 := X3.out.cell 1 rfl
      have x2 := X3.out.cell 2 rfl
      have y0 := X3.out.frozen 0
      have y1 := X3.out.frozen 1
      have y2 := X3.out.frozen 2
      rcases hres with ⟨hpg, rfl⟩ | ⟨g, A3, c3, hpg, rfl, O3, hgl⟩
      · have HN : Hid (flashOf ss = ([], [], 3)) := Lib.hid (by rw [HF.out, HZ.out, hpg])
        clear hpg
        go_wp2
        refine bodyPost_ret (v := .tuple #[.agg #[.slice none 0 0, .slice none 0 0, .int .i64 0], .int .i64 3]) (by simp [results, Try.results13, go_sem, x0, x1, x2]) rfl ?_
        refine givesNo HN.out ?_
        exact below3 hbq (Nat.le_refl _) _ _ _
      · have HN : Hid (flashOf ss = (z, g, 0)) := Lib.hid (by rw [HF.out, HZ.out, hpg])
        have HGl := Lib.hid hgl
        have HO2 : Hid (OwnI w3 w.heap.size w3.heap.size A2 z) := Lib.hid ((O2.out.below hb3).wideB hb0.size hb3.size)
        have HO3 : Hid (OwnB w3 w.heap.size w3.heap.size A3 g) := Lib.hid (O3.out.wide hbz.size (Nat.le_refl _))
        clear hpg hgl O2 O3
        go_wp2
        refine bodyPost_ret (v := .tuple #[.agg #[.slice A2 256 c2, .slice A3 16 c3, .int .i64 0], .int .i64 0]) (by simp [results, Try.results13, go_sem, x0, x1, x2]) rfl ?_
        unfold GivesFlashOf
        rw [HN.out]
        simp only
        rw [HZl.out, HGl.out]
        refine ⟨A2, A3, c2, c3, rfl, Lib.hid ?_, below3 hbq (Nat.le_refl _) _ _ _⟩
        have q1 := (HO2.out.far3 X3.out (.slice A2 256 c2) (.slice A3 16 c3) (.int .i64 0))
        have q2 := (HO3.out.far3 X3.out (.slice A2 256 c2) (.slice A3 16 c3) (.int .i64 0))
        have q3 := ownIB (c := c2) (d := c3) q1 q2
        rw [HZl.out, HGl.out] at q3
        rw [size3]
        exact q3
  · have HN : Hid (flashOf ss = ([], [], pagesC ss)) := Lib.hid (by unfold flashOf; rw [if_pos hp])
    have hq : (pagesC ss != 0) = true := by simp [hp]
    generalize pagesC ss = pc at HC HN hq
    clear hp hl hn hc h fs
    go_enter Try.func13, Try.ntmps13
    go_wp2_with fail
    refine (HC.out _ hb0).mono ?_
    rintro e w1 ⟨rfl, rfl⟩
    go_wp2
    refine bodyPost_ret (v := .tuple #[.agg #[.slice none 0 0, .slice none 0 0, .int .i64 0], .int .i64 pc]) (by simp [results, Try.results13, go_sem]) rfl ?_
    exact givesNo HN.out hb0
set_option maxRecDepth 100000 in
theorem implFlashOfA (A0 : Option Addr) (c0 : Nat) (d0 : List ByteArray) (w : World) (h : RepA w [.slice A0 d0.length c0] [.S d0]) (cp : CapA [.slice A0 d0.length c0]) (z : szA [.S d0] ≤ 1048576) :
    Calls Try.prog 13 #[.slice A0 d0.length c0] w (fun e w' => ∃ rA0 rA1 rc0 rc1, e = .returned (.tuple #[.agg #[.slice rA0 (flashOf d0).1.length rc0, .slice rA1 (flashOf d0).2.1.length rc1, .int .i64 (flashSt d0)], .int .i64 (flashOf d0).2.2]) ∧ Hid (OwnA w' w.heap.size w'.heap.size [.slice rA0 (flashOf d0).1.length rc0, .slice rA1 (flashOf d0).2.1.length rc1] [.I (flashOf d0).1, .B (flashOf d0).2.1]) ∧ Below w.heap.size w w') :=
  implFlashOfW A0 _ c0 d0 w rfl (by simp only [szA, Lf.sz] at z; unfold maxLen; omega) (cp _ (List.mem_cons_self) A0 _ c0 rfl) (repS h.1) (fit_of_sz z)
end Go.Proofs.Ythobepmlopegbaa
