/- The law FnCode, walked. Written by gen_walkcode.py. -/
import Derived.Test.YtcchhbkbnbphhaaDoorM6
import Derived.Test.YtcchhbkbnbphhaaDoorM4
import Derived.Test.YtcchhbkbnbphhaaDoorTxt4
import Derived.Test.YtcchhbkbnbphhaaDoorReadI
import Derived.Test.YtcchhbkbnbphhaaDoorM5
import Derived.Test.YtcchhbkbnbphhaaDoorM2
import Derived.Laws.Tables
namespace Go.Proofs.YtcchhbkbnbphhaaDoor
open Go.RowKit

set_option maxRecDepth 100000 in
theorem elemIs : Tryd.prog.underlying 26 = some (.slice (Tryd.prog.elem 26)) := by kernel_rfl
set_option maxRecDepth 100000 in
theorem sizeInt (w : World) : (sizeOf (Tryd.prog.elem 26)).run Tryd.prog w = .ok 1 w := by kernel_rfl
def cdF (gg m cap : Nat) (a0 a1 a2 op reg arg : Int) (lo : Nat) : Nat → (Nat → Value) → World → Prop
  | 0, t, _ => t 134 = .slice (some ⟨gg, 0, none⟩) m cap
  | 1, t, _ => t 135 = .pointer (some ⟨gg, 0, none⟩)
  | 2, t, _ => t 136 = .int .i64 a0
  | 3, t, _ => t 137 = .slice (some ⟨gg, 0, none⟩) m cap
  | 4, t, _ => t 138 = .pointer (some ⟨gg, 1, none⟩)
  | 5, t, _ => t 139 = .int .i64 a1
  | 6, t, _ => t 140 = .slice (some ⟨gg, 0, none⟩) m cap
  | 7, t, _ => t 141 = .pointer (some ⟨gg, 2, none⟩)
  | 8, t, _ => t 142 = .int .i64 a2
  | 9, t, _ => t 143 = .tuple #[.agg #[.int .i64 op, .int .i64 reg, .int .i64 arg], .int .i64 0]
  | 10, t, _ => t 133 = .tuple #[.agg #[.int .i64 op, .int .i64 reg, .int .i64 arg], .int .i64 0]
  | 11, t, _ => t 144 = .agg #[.int .i64 op, .int .i64 reg, .int .i64 arg]
  | 12, t, _ => t 145 = .int .i64 0
  | 13, t, W => ∃ h, t 21 = .pointer (some ⟨h, 0, none⟩) ∧ lo ≤ h ∧ ∃ cs : Array Value, cs.size = 3 ∧ Box W h 24 cs
  | 14, t, W => ∃ h, t 21 = .pointer (some ⟨h, 0, none⟩) ∧ lo ≤ h ∧ Box W h 24 #[.int .i64 op, .int .i64 reg, .int .i64 arg]
  | 15, t, _ => t 22 = .int .i64 0
  | _, _, _ => True
theorem cdF_below {gg m cap : Nat} {a0 a1 a2 op reg arg : Int} {lo : Nat} {W W' : World} (k : Below W.heap.size W W') : ∀ (j : Nat) (t : Nat → Value), cdF gg m cap a0 a1 a2 op reg arg lo j t W → cdF gg m cap a0 a1 a2 op reg arg lo j t W'
  | 0, _, e | 1, _, e | 2, _, e | 3, _, e | 4, _, e | 5, _, e | 6, _, e | 7, _, e | 8, _, e | 9, _, e | 10, _, e | 11, _, e | 12, _, e | 15, _, e => e
  | 13, _, ⟨h, e, q, cs, c, X⟩ => ⟨h, e, q, cs, c, X.step k⟩
  | 14, _, ⟨h, e, q, X⟩ => ⟨h, e, q, X.step k⟩
  | _ + 16, _, _ => trivial
theorem Box.setRow3 {w : World} {b : Nat} {t : TypeId} {cs : Array Value} (X : Box w b t cs) (cs' : Array Value) : Box (w.setRow b cs') b t cs' := by
  unfold Box at X ⊢
  simp [World.setRow, Array.getElem?_modify, X]
theorem Box.farRow3 {w : World} {b b' : Nat} {t : TypeId} {cs : Array Value} (X : Box w b t cs) (hb : b ≠ b') (cs' : Array Value) : Box (w.setRow b' cs') b t cs := (setRow_other w b' b cs' hb).trans X
theorem row_low {w : World} {b lo : Nat} {t : TypeId} {cs : Array Value} (_X : Box w b t cs) (h : lo ≤ b) (cs' : Array Value) : Below lo w (w.setRow b cs') :=
  ⟨rfl, rfl, rfl, by simp [World.setRow], fun k hk => setRow_other w b k cs' (by omega)⟩
theorem cdF_row {gg m cap : Nat} {a0 a1 a2 op reg arg : Int} {lo : Nat} {W : World} {h : Nat} {cs : Array Value} (X : Box W h 24 cs) (cs' : Array Value) (hz : cs'.size = 3) : ∀ (j : Nat) (t : Nat → Value), j ≠ 14 → cdF gg m cap a0 a1 a2 op reg arg lo j t W → cdF gg m cap a0 a1 a2 op reg arg lo j t (W.setRow h cs')
  | 0, _, _, e | 1, _, _, e | 2, _, _, e | 3, _, _, e | 4, _, _, e | 5, _, _, e | 6, _, _, e | 7, _, _, e | 8, _, _, e | 9, _, _, e | 10, _, _, e | 11, _, _, e | 12, _, _, e | 15, _, _, e => e
  | 13, _, _, ⟨g, e, q, c9, c, Y⟩ => by
    by_cases hh : g = h
    · subst hh; exact ⟨g, e, q, cs', hz, Y.setRow3 _⟩
    · exact ⟨g, e, q, c9, c, Y.farRow3 hh _⟩
  | 14, _, m, _ => (m rfl).elim
  | _ + 16, _, _, _ => trivial
set_option maxRecDepth 100000 in
theorem infoIns3 : (Tryd.prog.info? 24).map (·.size) = some 3 := by kernel_rfl
set_option maxHeartbeats 16000000 in
set_option maxRecDepth 100000 in
theorem walkCode (A : Option Addr) (n c : Nat) (zs : List Nat) (A' : Option Addr) (n' c' : Nat) (zs' : List Nat) (w : World) (hl : zs.length = n) (hn : n ≤ maxLen) (h : ByB w w.heap.size A zs) (hl' : zs'.length = n') (hn' : n' ≤ maxLen) (h' : ByB w w.heap.size A' zs') (ht : OpsT w) (hp : Pow w) :
    Calls Tryd.prog 3 #[.slice A n c, .slice A' n' c'] w fun e w' => e = .returned (.bool true) ∧ Below w.heap.size w w' := by
  have HN1 := Lib.hid hn
  have HN2 := Lib.hid hn'
  unfold maxLen at hn hn'
  by_cases hle : 1048576 < n
  · have i1 : (1048576 : Int) < (n : Int) := by omega
    clear hle
    go_enter Tryd.func3, Tryd.ntmps3
    go_wp2
    go_ret
    exact ⟨rfl, Below.refl _ _⟩
  have i1 : ¬ (1048576 : Int) < (n : Int) := by omega
  by_cases hle' : 1048576 < n'
  · have i2 : (1048576 : Int) < (n' : Int) := by omega
    clear hle'
    go_enter Tryd.func3, Tryd.ntmps3
    go_wp2
    go_ret
    exact ⟨rfl, Below.refl _ _⟩
  have i2 : ¬ (1048576 : Int) < (n' : Int) := by omega
  have HA0 : Hid (∀ W, Below w.heap.size w W → Calls Tryd.prog 15 #[.slice A' n' c', .int .i64 0, .int .i64 256] W fun e w' => e = .returned (.int .i64 (atOf zs' 0 256 : Nat)) ∧ Below W.heap.size W w') := Lib.hid (fun W hb => lawAtE 0 256 A' n' c' zs' W (by omega) (by omega) (by omega) (by omega) hl' (h'.step hb))
  have hk0 := atOf_lt zs' 0 256 (by omega)
  generalize atOf zs' 0 256 = x0 at HA0 hk0
  have HA1 : Hid (∀ W, Below w.heap.size w W → Calls Tryd.prog 15 #[.slice A' n' c', .int .i64 1, .int .i64 256] W fun e w' => e = .returned (.int .i64 (atOf zs' 1 256 : Nat)) ∧ Below W.heap.size W w') := Lib.hid (fun W hb => lawAtE 1 256 A' n' c' zs' W (by omega) (by omega) (by omega) (by omega) hl' (h'.step hb))
  have hk1 := atOf_lt zs' 1 256 (by omega)
  generalize atOf zs' 1 256 = x1 at HA1 hk1
  have HA2 : Hid (∀ W, Below w.heap.size w W → Calls Tryd.prog 15 #[.slice A' n' c', .int .i64 2, .int .i64 256] W fun e w' => e = .returned (.int .i64 (atOf zs' 2 256 : Nat)) ∧ Below W.heap.size W w') := Lib.hid (fun W hb => lawAtE 2 256 A' n' c' zs' W (by omega) (by omega) (by omega) (by omega) hl' (h'.step hb))
  have hk2 := atOf_lt zs' 2 256 (by omega)
  generalize atOf zs' 2 256 = x2 at HA2 hk2
  have HA3 : Hid (∀ W, Below w.heap.size w W → Calls Tryd.prog 15 #[.slice A' n' c', .int .i64 3, .int .i64 256] W fun e w' => e = .returned (.int .i64 (atOf zs' 3 256 : Nat)) ∧ Below W.heap.size W w') := Lib.hid (fun W hb => lawAtE 3 256 A' n' c' zs' W (by omega) (by omega) (by omega) (by omega) hl' (h'.step hb))
  have hk3 := atOf_lt zs' 3 256 (by omega)
  generalize atOf zs' 3 256 = x3 at HA3 hk3
  have HA4 : Hid (∀ W, Below w.heap.size w W → Calls Tryd.prog 15 #[.slice A' n' c', .int .i64 4, .int .i64 256] W fun e w' => e = .returned (.int .i64 (atOf zs' 4 256 : Nat)) ∧ Below W.heap.size W w') := Lib.hid (fun W hb => lawAtE 4 256 A' n' c' zs' W (by omega) (by omega) (by omega) (by omega) hl' (h'.step hb))
  have hk4 := atOf_lt zs' 4 256 (by omega)
  generalize atOf zs' 4 256 = x4 at HA4 hk4
  have HX : Hid ((x0 < 256 ∧ x1 < 256) ∧ (x2 < 256 ∧ x3 < 256 ∧ x4 < 256)) := Lib.hid ⟨⟨hk0, hk1⟩, hk2, hk3, hk4⟩
  have HIn := Lib.hid (instrDrawn A n c zs w HN1.out hl h)
  have HTb := Lib.hid ht
  have HPw := Lib.hid hp
  obtain ⟨i0, hi0, hz0, hz1, hz2⟩ := infoIx
  have HI := Lib.hid (And.intro hi0 (And.intro hz0 (And.intro hz1 hz2)))
  clear hl hl' hn hn' h h' hle hle' HN1 HN2 ht hp hk0 hk1 hk2 hk3 hk4 hi0 hz0 hz1 hz2
  go_enter Tryd.func3, Tryd.ntmps3
  go_wp2_with fail
  refine HIn.out.mono ?_
  rintro e w1 ⟨op, reg, arg, rfl, hok, k1⟩
  have HB := Lib.hid k1
  have HOk := Lib.hid hok
  clear HIn hok k1
  obtain ⟨V1, hW⟩ : ∃ V1, V1 = w1.alloc (.cells #[.int .i64 op, .int .i64 reg, .int .i64 arg] 24) := ⟨_, rfl⟩
  have ka : Below w1.heap.size w1 V1 := by rw [hW]; exact alloc_below _ _
  replace HB := Lib.hid (bt HB.out ka)
  have X5 : Hid (Box V1 w1.heap.size 24 #[.int .i64 op, .int .i64 reg, .int .i64 arg]) := Lib.hid (by rw [hW]; exact Box.new _ _ _)
  clear ka
  have hE := enc_ok HOk.out
  obtain ⟨ls, hls⟩ : ∃ ls, ls = encL op reg arg := ⟨_, rfl⟩
  rw [← hls] at hE
  have HLs := Lib.hid hls
  obtain ⟨ln, hln⟩ : ∃ ln : Nat, ls.length = ln ∧ lenT op = (ln : Int) ∧ 1 ≤ ln ∧ ln ≤ 3 := ⟨ls.length, rfl, by rw [hls, encL_len]; have := lenT_range op; omega, by rw [hls, encL_len]; have := lenT_range op; omega, by rw [hls, encL_len]; have := lenT_range op; omega⟩
  have HLn := Lib.hid hln
  have HEn := Lib.hid hE
  clear hE hls hln
  have HCe := Lib.hid (fun W (q : OpsT W) => implEncodeA op reg arg W q)
  rw [HEn.out, HLn.out.1] at HCe
  have fX50 := X5.out.cell 0 rfl; have fX51 := X5.out.cell 1 rfl; have fX52 := X5.out.cell 2 rfl
  rw [hW] at fX50 fX51 fX52
  go_wp2_with fail
  rw [← hW]
  clear hW
  obtain ⟨D5, hD⟩ : ∃ D5, D5 = w1.heap.size := ⟨_, rfl⟩
  rw [← hD] at X5 ⊢
  clear hD
  clear fX50 fX51 fX52
  refine (HCe.out _ (HTb.out.below HB.out)).mono ?_
  rintro e w2 ⟨Al1, cl1, rfl, Ol, k2⟩
  replace X5 := Lib.hid (X5.out.step k2)
  replace HB := Lib.hid (bt HB.out k2)
  clear k2
  have S1 := Lib.hid ((own_row HLn.out.1 Ol.out.1.1).reads)
  clear HCe Ol
  have HCe := Lib.hid (fun W => specEncodeA op reg arg W)
  rw [HEn.out, HLn.out.1] at HCe
  have fX50 := X5.out.cell 0 rfl; have fX51 := X5.out.cell 1 rfl; have fX52 := X5.out.cell 2 rfl
  go_wp2_with fail
  clear fX50 fX51 fX52
  refine (HCe.out _).mono ?_
  rintro e w3 ⟨Al2, cl2, rfl, Ol, k3⟩
  replace X5 := Lib.hid (X5.out.step k3)
  replace S1 := Lib.hid (S1.out.below k3)
  replace HB := Lib.hid (bt HB.out k3)
  clear k3
  have S2 := Lib.hid ((own_row HLn.out.1 Ol.out.1.1).reads)
  clear HCe Ol
  have HCl := Lib.hid (fun W (q : OpsT W) => implLengthOfA op W q)
  rw [len_ok HOk.out, HLn.out.2.1] at HCl
  have fX50 := X5.out.cell 0 rfl; have fX51 := X5.out.cell 1 rfl; have fX52 := X5.out.cell 2 rfl
  go_wp2_with fail
  clear fX50 fX51 fX52
  refine (HCl.out _ (HTb.out.below HB.out)).mono ?_
  rintro e w4 ⟨rfl, k4⟩
  replace X5 := Lib.hid (X5.out.step k4)
  replace S1 := Lib.hid (S1.out.below k4)
  replace S2 := Lib.hid (S2.out.below k4)
  replace HB := Lib.hid (bt HB.out k4)
  clear k4
  clear HCl
  have HCt := Lib.hid (fun W (q : OpsT W) (q' : Pow W) => implInstrTextA op reg arg W q q')
  rw [txtF_t HOk.out] at HCt
  have HTx : Hid (rdI (txtB op reg arg) = ((op, reg, arg), 0) ∧ (txtB op reg arg).size ≤ 65536) := Lib.hid ⟨rdI_ok (by have := txt_size HOk.out; omega) (rd_txt HOk.out), txt_size HOk.out⟩
  generalize txtB op reg arg = tx at HCt HTx
  have fX50 := X5.out.cell 0 rfl; have fX51 := X5.out.cell 1 rfl; have fX52 := X5.out.cell 2 rfl
  go_wp2_with fail
  clear fX50 fX51 fX52
  refine (HCt.out _ (HTb.out.below HB.out) (HPw.out.below HB.out)).mono ?_
  rintro e w5 ⟨rfl, k5⟩
  replace X5 := Lib.hid (X5.out.step k5)
  replace S1 := Lib.hid (S1.out.below k5)
  replace S2 := Lib.hid (S2.out.below k5)
  replace HB := Lib.hid (bt HB.out k5)
  clear k5
  clear HCt
  have HCr := Lib.hid (fun W (q : OpsT W) => implReadInstrA tx W (by have := HTx.out.2; omega) q)
  rw [HTx.out.1] at HCr
  have fX50 := X5.out.cell 0 rfl; have fX51 := X5.out.cell 1 rfl; have fX52 := X5.out.cell 2 rfl
  go_wp2_with fail
  clear fX50 fX51 fX52
  refine (HCr.out _ (HTb.out.below HB.out)).mono ?_
  rintro e w6 ⟨rfl, k6⟩
  replace X5 := Lib.hid (X5.out.step k6)
  replace S1 := Lib.hid (S1.out.below k6)
  replace S2 := Lib.hid (S2.out.below k6)
  replace HB := Lib.hid (bt HB.out k6)
  clear k6
  clear HCr HTx
  obtain ⟨V2, hW⟩ : ∃ V2, V2 = w6.alloc (.cells #[.int .i64 op, .int .i64 reg, .int .i64 arg] 24) := ⟨_, rfl⟩
  have ka : Below w6.heap.size w6 V2 := by rw [hW]; exact alloc_below _ _
  replace X5 := Lib.hid (X5.out.step ka)
  replace S1 := Lib.hid (S1.out.below ka)
  replace S2 := Lib.hid (S2.out.below ka)
  replace HB := Lib.hid (bt HB.out ka)
  have X14 : Hid (Box V2 w6.heap.size 24 #[.int .i64 op, .int .i64 reg, .int .i64 arg]) := Lib.hid (by rw [hW]; exact Box.new _ _ _)
  clear ka
  have HCc := Lib.hid (fun W (q : OpsT W) => implCyclesOfA op W q)
  have HCs := Lib.hid (fun W => specCyclesOfA op W)
  rw [cyc_ok HOk.out] at HCc HCs
  generalize cycT op = cy at HCc HCs
  have fX50 := X5.out.cell 0 rfl; have fX51 := X5.out.cell 1 rfl; have fX52 := X5.out.cell 2 rfl; have fX140 := X14.out.cell 0 rfl; have fX141 := X14.out.cell 1 rfl; have fX142 := X14.out.cell 2 rfl
  rw [hW] at fX50 fX51 fX52 fX140 fX141 fX142
  go_wp2_with fail
  rw [← hW]
  clear hW
  obtain ⟨D14, hD⟩ : ∃ D14, D14 = w6.heap.size := ⟨_, rfl⟩
  rw [← hD] at X14 ⊢
  clear hD
  clear fX50 fX51 fX52 fX140 fX141 fX142
  refine (HCc.out _ (HTb.out.below HB.out)).mono ?_
  rintro e w7 ⟨rfl, k7⟩
  replace X5 := Lib.hid (X5.out.step k7)
  replace X14 := Lib.hid (X14.out.step k7)
  replace S1 := Lib.hid (S1.out.below k7)
  replace S2 := Lib.hid (S2.out.below k7)
  replace HB := Lib.hid (bt HB.out k7)
  clear k7
  have fX50 := X5.out.cell 0 rfl; have fX51 := X5.out.cell 1 rfl; have fX52 := X5.out.cell 2 rfl; have fX140 := X14.out.cell 0 rfl; have fX141 := X14.out.cell 1 rfl; have fX142 := X14.out.cell 2 rfl
  go_wp2_with fail
  clear fX50 fX51 fX52 fX140 fX141 fX142
  refine (HCs.out _).mono ?_
  rintro e w8 ⟨rfl, k8⟩
  replace X5 := Lib.hid (X5.out.step k8)
  replace X14 := Lib.hid (X14.out.step k8)
  replace S1 := Lib.hid (S1.out.below k8)
  replace S2 := Lib.hid (S2.out.below k8)
  replace HB := Lib.hid (bt HB.out k8)
  clear k8
  clear HCc HCs
  have fX50 := X5.out.cell 0 rfl; have fX51 := X5.out.cell 1 rfl; have fX52 := X5.out.cell 2 rfl; have fX140 := X14.out.cell 0 rfl; have fX141 := X14.out.cell 1 rfl; have fX142 := X14.out.cell 2 rfl
  go_wp2_with fail
  clear fX50 fX51 fX52 fX140 fX141 fX142
  refine (lawSameIntsD Al1 Al2 ln cl1 cl2 ls _ HLn.out.1 (by have := HLn.out; omega) S1.out S2.out).mono ?_
  rintro e w9 ⟨rfl, k9⟩
  replace X5 := Lib.hid (X5.out.step k9)
  replace X14 := Lib.hid (X14.out.step k9)
  replace S1 := Lib.hid (S1.out.below k9)
  replace S2 := Lib.hid (S2.out.below k9)
  replace HB := Lib.hid (bt HB.out k9)
  clear k9
  have j1 : ((ln : Int) != (ln : Int)) = false := by simp
  have j2 : ¬ (ln : Int) < 1 := by have := HLn.out; omega
  have j3 : (cy != cy) = false := by simp
  have hg1 := guardNeqI
  have hg2 := neqI op reg arg
  have HCk := Lib.hid (fun W (q : OpsT W) => implInstrOKA op reg arg W q)
  rw [HOk.out] at HCk
  have fX50 := X5.out.cell 0 rfl; have fX51 := X5.out.cell 1 rfl; have fX52 := X5.out.cell 2 rfl; have fX140 := X14.out.cell 0 rfl; have fX141 := X14.out.cell 1 rfl; have fX142 := X14.out.cell 2 rfl
  go_wp2_with fail
  clear fX50 fX51 fX52 fX140 fX141 fX142
  refine (HCk.out _ (HTb.out.below HB.out)).mono ?_
  rintro e w10 ⟨rfl, k10⟩
  replace X5 := Lib.hid (X5.out.step k10)
  replace X14 := Lib.hid (X14.out.step k10)
  replace S1 := Lib.hid (S1.out.below k10)
  replace S2 := Lib.hid (S2.out.below k10)
  replace HB := Lib.hid (bt HB.out k10)
  clear k10
  clear HCk
  have q10 := alloc_below w10 (.cells #[] 3)
  have HSw := Lib.hid (fun (_ : 0 < ln) => (S1.out.below q10).src (by have := HLn.out; omega))
  replace HB := Lib.hid (bt HB.out q10)
  replace X5 := Lib.hid (X5.out.step q10)
  clear S1 S2 X14 q10
  go_wp2_with (at_builtin; refine wpList_app_new rfl (.tmp 124) (.tmp 125) 26 rfl 3 i0 (.int .i64 0) 1 8 Tryd.underlying26 HI.out.1 HI.out.2.1 HI.out.2.2.1 HI.out.2.2.2 rfl (by decide) ⟨w10.heap.size, 0, none⟩ rfl Al1 ln cl1 (cellsI ls) rfl ?hl ?hsrc ?h63 ?hby ?_)
  case hl => rw [cellsI_len, HLn.out.1, Nat.mul_one]
  case hsrc => exact HSw.out
  case h63 => (have := HLn.out; unfold maxLen; omega)
  case hby => (have := HLn.out; omega)
  intro Ab cb w11 kb Ob
  obtain ⟨B9, hB9⟩ : ∃ B9, B9 = w10.heap.size + 1 := ⟨_, rfl⟩
  have hszB : (w10.alloc (.cells #[] 3)).heap.size = B9 := by rw [hB9]; simp
  rw [← hB9] at kb Ob
  have hw9 : w.heap.size ≤ B9 := by rw [← hszB]; exact HB.out.size
  have hD5 : D5 < B9 := by rw [← hszB]; exact X5.out.lt
  replace HB := Lib.hid (HB.out.trans (kb.mono hw9))
  replace X5 := Lib.hid (X5.out.below kb hD5)
  have HO : Hid (w11.ownsRow B9 3 1 (.slice Ab ln cb) ln (cellsI ls)) := Lib.hid (by
    rcases Ob.out with ⟨h0, _⟩ | ⟨_, q⟩
    · have := HLn.out; omega
    · exact q)
  obtain ⟨ga, ca, ea, hga1, hga2⟩ := owns_form HO.out (by have := HLn.out; omega)
  injection ea with ea _ eb
  subst ea eb
  clear Ob kb hB9 hszB HSw
  go_wp2_with fail
  refine (HA0.out _ HB.out).mono ?_
  rintro e w12 ⟨rfl, k12⟩
  replace X5 := Lib.hid (X5.out.step k12)
  replace HO := Lib.hid (rowv_below HO.out k12)
  replace HB := Lib.hid (bt HB.out k12)
  clear k12
  go_wp2_with fail
  refine (HA1.out _ HB.out).mono ?_
  rintro e w13 ⟨rfl, k13⟩
  replace X5 := Lib.hid (X5.out.step k13)
  replace HO := Lib.hid (rowv_below HO.out k13)
  replace HB := Lib.hid (bt HB.out k13)
  clear k13
  have k14 := Lib.hid (alloc_below w13 (.cells #[.int .i64 (x0 : Int), .int .i64 (x1 : Int)] 3))
  have HOw := Lib.hid (rowv_below HO.out k14.out)
  have HNw : Hid (∀ j u, [Value.int .i64 (x0 : Int), .int .i64 (x1 : Int)][j]? = some u → (w13.alloc (.cells #[.int .i64 (x0 : Int), .int .i64 (x1 : Int)] 3)).cell? ((⟨w13.heap.size, 0, none⟩ : Addr).add j) = some u) := Lib.hid (fun j u hj => by
    have hB := Box.new w13 3 #[.int .i64 (x0 : Int), .int .i64 (x1 : Int)]
    match j, hj with
    | 0, hj => simp at hj; subst hj; exact hB.cell 0 rfl
    | 1, hj => simp at hj; subst hj; exact hB.cell 1 rfl)
  have hbs : B9 ≤ w13.heap.size := by obtain ⟨g8, c8, e8, q81, q82⟩ := owns_form HO.out (by have := HLn.out; omega); omega
  clear HA0 HA1
  go_wp2_with (at_builtin; refine wpList_append_own _ rfl (.tmp 126) (.tmp 131) 26 rfl B9 3 i0 (.int .i64 0) 1 8 Tryd.underlying26 HI.out.1 HI.out.2.1 HI.out.2.2.1 HI.out.2.2.2 rfl (by decide) _ ln (cellsI ls) rfl ?hown ⟨w13.heap.size, 0, none⟩ 2 2 [.int .i64 (x0 : Int), .int .i64 (x1 : Int)] rfl rfl ?hnews ?hone ?h63 ?hby ?hbase ?_)
  case hown => exact HOw.out
  case hnews => exact HNw.out
  case hone => intro u hu; simp at hu; rcases hu with rfl | rfl <;> rfl
  case h63 => (have := HLn.out; unfold maxLen; omega)
  case hby => (have := HLn.out; omega)
  case hbase => simp; omega
  intro v9 w14 hown hgr hniff
  have hown' : w14.ownsRow B9 3 1 v9 (ln + 2) ((ls ++ [(x0 : Int), (x1 : Int)]).map (Value.int .i64)) := by
    rw [show (ls ++ [(x0 : Int), (x1 : Int)]).map (Value.int .i64) = cellsI ls ++ [.int .i64 (x0 : Int), .int .i64 (x1 : Int)] by unfold cellsI; simp]
    exact hown
  obtain ⟨gg, cap', hv1, p1, p2⟩ := owns_form hown' (by omega)
  subst hv1
  have hge := ownBlock_ge1 HOw.out
  have k15 : Below B9 (w13.alloc (.cells #[.int .i64 (x0 : Int), .int .i64 (x1 : Int)] 3)) w14 := below_of_grown (B := B9) hgr hge (by simp; omega)
  replace HB := Lib.hid ((bt HB.out k14.out).trans (k15.mono hw9))
  replace X5 := Lib.hid ((X5.out.step k14.out).below k15 hD5)
  have hcs := owns_cells hown'
  have c0 := hcs 0 (by omega)
  have c1 := hcs 1 (by omega)
  have c2 := hcs 2 (by have := HLn.out; omega)
  have HDc := dcd_enc HOk.out (x := (x0 : Int)) (y := (x1 : Int)) (by have := HX.out; omega) (by have := HX.out; omega)
  rw [← HLs.out] at HDc
  generalize (ls ++ [(x0 : Int), (x1 : Int)]).getD 0 0 = a0 at c0 HDc
  generalize (ls ++ [(x0 : Int), (x1 : Int)]).getD 1 0 = a1 at c1 HDc
  generalize (ls ++ [(x0 : Int), (x1 : Int)]).getD 2 0 = a2 at c2 HDc
  have HDd := Lib.hid (fun W (q : OpsT W) => implDecodeA a0 a1 a2 W q)
  rw [HDc] at HDd
  have i9 : (2 : Int) < ((ln + 2 : Nat) : Int) := by have := HLn.out; omega
  have HCs := Lib.hid (And.intro c0 (And.intro c1 c2))
  have HCs : Hid (w14.cell? ⟨gg, 0, none⟩ = some (.int .i64 a0) ∧ w14.cell? ⟨gg, 1, none⟩ = some (.int .i64 a1) ∧ w14.cell? ⟨gg, 2, none⟩ = some (.int .i64 a2)) := Lib.hid ⟨c0, c1, c2⟩
  have n0 : (0 : Int) < ((ln + 2 : Nat) : Int) := by omega
  have n1 : (1 : Int) < ((ln + 2 : Nat) : Int) := by omega
  have hgg : gg < w14.heap.size := p2
  clear hown hown' hgr hniff hge k14 HOw HNw HO hcs c0 c1 c2 HDc k15 j1 j2 j3 hg1 hg2
  go_wp2_with fail
  refine wp_region_facts (by kernel_rfl) [[134], [135], [136], [137], [138], [139], [140], [141], [142], [143], [133], [144], [145], [21], [21], [22]] [[], [0], [0, 1], [], [3], [3, 4], [], [6], [6, 7], [0, 1, 2, 3, 4, 5, 6, 7, 8], [0, 1, 2, 3, 4, 5, 6, 7, 8, 9], [0, 1, 2, 3, 4, 5, 6, 7, 8, 9, 10], [0, 1, 2, 3, 4, 5, 6, 7, 8, 9, 10], [], [0, 1, 2, 3, 4, 5, 6, 7, 8, 9, 10, 11, 13], [0, 1, 2, 3, 4, 5, 6, 7, 8, 9, 10, 11, 12, 13, 14]] [1, 5, 20] (by kernel_rfl) (Below w14.heap.size w14) (cdF gg (ln + 2) cap' a0 a1 a2 op reg arg w14.heap.size) (Below.refl _ _).drew ?_ ?_
  · refine ⟨?_, ?_, ?_, ?_, ?_, ?_, ?_, ?_, ?_, ?_, ?_, ?_, ?_, ?_, ?_, ?_, trivial⟩
    · intro T W hT hs hC hF K hK
      exact wp_pure (.tmp 20) (.inr rfl) (.slice (some ⟨gg, 0, none⟩) (ln + 2) cap') (hs 20 (by decide)) (hK.out _ W hC (fun _ _ _ h => h) (mask_put [134] 134 (by decide) _ _ _ (by rw [hT]; show 134 < 191; decide)))
    · intro T W hT hs hC hF K hK
      have e : T.getD 134 undef = (.slice (some ⟨gg, 0, none⟩) (ln + 2) cap') := hF 0 (by decide)
      exact wp_index1 26 (.tmp 134) 0 0 rfl rfl gg (ln + 2) cap' e (by omega) elemIs (sizeInt W) (hK.out _ W hC (fun _ _ _ h => h) (mask_put [135] 135 (by decide) _ _ _ (by rw [hT]; show 135 < 191; decide)))
    · intro T W hT hs hC hF K hK
      have e : T.getD 135 undef = .pointer (some ⟨gg, 0, none⟩) := hF 1 (by decide)
      exact wp_load_int (.tmp 135) rfl _ e a0 ((hC.cell hgg).trans HCs.out.1) (hK.out _ W hC (fun _ _ _ h => h) (mask_put [136] 136 (by decide) _ _ _ (by rw [hT]; show 136 < 191; decide)))
    · intro T W hT hs hC hF K hK
      exact wp_pure (.tmp 20) (.inr rfl) (.slice (some ⟨gg, 0, none⟩) (ln + 2) cap') (hs 20 (by decide)) (hK.out _ W hC (fun _ _ _ h => h) (mask_put [137] 137 (by decide) _ _ _ (by rw [hT]; show 137 < 191; decide)))
    · intro T W hT hs hC hF K hK
      have e : T.getD 137 undef = (.slice (some ⟨gg, 0, none⟩) (ln + 2) cap') := hF 3 (by decide)
      exact wp_index1 26 (.tmp 137) 1 1 rfl rfl gg (ln + 2) cap' e (by omega) elemIs (sizeInt W) (hK.out _ W hC (fun _ _ _ h => h) (mask_put [138] 138 (by decide) _ _ _ (by rw [hT]; show 138 < 191; decide)))
    · intro T W hT hs hC hF K hK
      have e : T.getD 138 undef = .pointer (some ⟨gg, 1, none⟩) := hF 4 (by decide)
      exact wp_load_int (.tmp 138) rfl _ e a1 ((hC.cell hgg).trans HCs.out.2.1) (hK.out _ W hC (fun _ _ _ h => h) (mask_put [139] 139 (by decide) _ _ _ (by rw [hT]; show 139 < 191; decide)))
    · intro T W hT hs hC hF K hK
      exact wp_pure (.tmp 20) (.inr rfl) (.slice (some ⟨gg, 0, none⟩) (ln + 2) cap') (hs 20 (by decide)) (hK.out _ W hC (fun _ _ _ h => h) (mask_put [140] 140 (by decide) _ _ _ (by rw [hT]; show 140 < 191; decide)))
    · intro T W hT hs hC hF K hK
      have e : T.getD 140 undef = (.slice (some ⟨gg, 0, none⟩) (ln + 2) cap') := hF 6 (by decide)
      exact wp_index1 26 (.tmp 140) 2 2 rfl rfl gg (ln + 2) cap' e (by omega) elemIs (sizeInt W) (hK.out _ W hC (fun _ _ _ h => h) (mask_put [141] 141 (by decide) _ _ _ (by rw [hT]; show 141 < 191; decide)))
    · intro T W hT hs hC hF K hK
      have e : T.getD 141 undef = .pointer (some ⟨gg, 2, none⟩) := hF 7 (by decide)
      exact wp_load_int (.tmp 141) rfl _ e a2 ((hC.cell hgg).trans HCs.out.2.2) (hK.out _ W hC (fun _ _ _ h => h) (mask_put [142] 142 (by decide) _ _ _ (by rw [hT]; show 142 < 191; decide)))
    · intro T W hT hs hC hF K hK
      have e2 : T.getD 136 undef = .int .i64 a0 := hF 2 (by decide)
      have e5 : T.getD 139 undef = .int .i64 a1 := hF 5 (by decide)
      have e8 : T.getD 142 undef = .int .i64 a2 := hF 8 (by decide)
      refine wp_callfn Tryd.func16 (by kernel_rfl) (by kernel_rfl) [.int .i64 a0, .int .i64 a1, .int .i64 a2] rfl (by show [T.getD 136 undef, T.getD 139 undef, T.getD 142 undef] = _; rw [e2, e5, e8]) (HDd.out W (HTb.out.below (bt HB.out hC))) ?_
      rintro e' w' ⟨rfl, hc⟩
      exact ⟨_, rfl, hK.out _ w' (hC.trans (hc.mono hC.size)) (fun j t _ h => cdF_below hc j t h) (mask_put [143] 143 (by decide) _ _ _ (by rw [hT]; show 143 < 191; decide))⟩
    · intro T W hT hs hC hF K hK
      have e : T.getD 143 undef = (.tuple #[.agg #[.int .i64 op, .int .i64 reg, .int .i64 arg], .int .i64 0]) := hF 9 (by decide)
      exact wp_pure (.tmp 143) (.inr rfl) (.tuple #[.agg #[.int .i64 op, .int .i64 reg, .int .i64 arg], .int .i64 0]) e (hK.out _ W hC (fun _ _ _ h => h) (mask_put [133] 133 (by decide) _ _ _ (by rw [hT]; show 133 < 191; decide)))
    · intro T W hT hs hC hF K hK
      have e : T.getD 133 undef = (.tuple #[.agg #[.int .i64 op, .int .i64 reg, .int .i64 arg], .int .i64 0]) := hF 10 (by decide)
      exact wp_extract (.tmp 133) 0 rfl _ e _ rfl (hK.out _ W hC (fun _ _ _ h => h) (mask_put [144] 144 (by decide) _ _ _ (by rw [hT]; show 144 < 191; decide)))
    · intro T W hT hs hC hF K hK
      have e : T.getD 133 undef = (.tuple #[.agg #[.int .i64 op, .int .i64 reg, .int .i64 arg], .int .i64 0]) := hF 10 (by decide)
      exact wp_extract (.tmp 133) 1 rfl _ e _ rfl (hK.out _ W hC (fun _ _ _ h => h) (mask_put [145] 145 (by decide) _ _ _ (by rw [hT]; show 145 < 191; decide)))
    · intro T W hT hs hC hF K hK
      clear hF hs
      have k0 := alloc_below W (.cells #[.int .i64 0, .int .i64 0, .int .i64 0] 24)
      refine wp_allocZ 24 rfl #[.int .i64 0, .int .i64 0, .int .i64 0] (by kernel_rfl) ?_
      exact hK.out _ _ (hC.trans (k0.mono hC.size)) (fun j t _ h => cdF_below k0 j t h) ⟨W.heap.size, (mask_put [21] 21 (by decide) _ _ _ (by rw [hT]; show 21 < 191; decide)), hC.size, _, rfl, Box.new W 24 _⟩
    · intro T W hT hs hC hF K hK
      obtain ⟨h, eb, hlo, cs, hcs, X⟩ := hF 13 (by decide)
      have eb : T.getD 21 undef = .pointer (some ⟨h, 0, none⟩) := eb
      have ex : T.getD 144 undef = .agg #[.int .i64 op, .int .i64 reg, .int .i64 arg] := hF 11 (by decide)
      refine wp_store_row 24 (.tmp 21) (.tmp 144) rfl h #[.int .i64 op, .int .i64 reg, .int .i64 arg] eb ex 24 cs X infoIns3 (by rw [hcs]; rfl) (by simp [Value.oneCell']) ?_
      exact hK.out _ _ (hC.trans (row_low X hlo _)) (fun j t m q => cdF_row X _ rfl j t m q) ⟨h, eb, hlo, X.setRow3 _⟩
    · intro T W hT hs hC hF K hK
      have e : T.getD 145 undef = .int .i64 0 := hF 12 (by decide)
      exact wp_pure (.tmp 145) (.inl rfl) (.int .i64 0) e (hK.out _ W hC (fun _ _ _ h => h) (mask_put [22] 22 (by decide) _ _ _ (by rw [hT]; show 22 < 191; decide)))
  · intro T W hT hs hC hF
    obtain ⟨f, hlit, hf⟩ := lit_fun T 191 (hT.trans rfl)
    have hlit2 : T = #[f 0, f 1, f 2, f 3, f 4, f 5, f 6, f 7, f 8, f 9, f 10, f 11, f 12, f 13, f 14, f 15, f 16, f 17, f 18, f 19, f 20, f 21, f 22, f 23, f 24, f 25, f 26, f 27, f 28, f 29, f 30, f 31, f 32, f 33, f 34, f 35, f 36, f 37, f 38, f 39, f 40, f 41, f 42, f 43, f 44, f 45, f 46, f 47, f 48, f 49, f 50, f 51, f 52, f 53, f 54, f 55, f 56, f 57, f 58, f 59, f 60, f 61, f 62, f 63, f 64, f 65, f 66, f 67, f 68, f 69, f 70, f 71, f 72, f 73, f 74, f 75, f 76, f 77, f 78, f 79, f 80, f 81, f 82, f 83, f 84, f 85, f 86, f 87, f 88, f 89, f 90, f 91, f 92, f 93, f 94, f 95, f 96, f 97, f 98, f 99, f 100, f 101, f 102, f 103, f 104, f 105, f 106, f 107, f 108, f 109, f 110, f 111, f 112, f 113, f 114, f 115, f 116, f 117, f 118, f 119, f 120, f 121, f 122, f 123, f 124, f 125, f 126, f 127, f 128, f 129, f 130, f 131, f 132, f 133, f 134, f 135, f 136, f 137, f 138, f 139, f 140, f 141, f 142, f 143, f 144, f 145, f 146, f 147, f 148, f 149, f 150, f 151, f 152, f 153, f 154, f 155, f 156, f 157, f 158, f 159, f 160, f 161, f 162, f 163, f 164, f 165, f 166, f 167, f 168, f 169, f 170, f 171, f 172, f 173, f 174, f 175, f 176, f 177, f 178, f 179, f 180, f 181, f 182, f 183, f 184, f 185, f 186, f 187, f 188, f 189, f 190] := hlit
    have e1 : f 1 = .slice A' n' c' := (hf 1).trans (hs 1 (by decide))
    have e5 : f 5 = .pointer (some ⟨D5, 0, none⟩) := (hf 5).trans (hs 5 (by decide))
    obtain ⟨D21, e, hlo, XX⟩ := hF 14 (by decide)
    have e21 : f 21 = .pointer (some ⟨D21, 0, none⟩) := (hf 21).trans e
    have e22 : f 22 = .int .i64 0 := (hf 22).trans (hF 15 (by decide))
    have X21 := Lib.hid XX
    replace X5 := Lib.hid (X5.out.below hC X5.out.lt)
    replace HB := Lib.hid (bt HB.out hC)
    rw [hlit2, e1, e5, e21, e22]
    clear hF hs hT hC XX HCs HDd n0 n1 i9 hgg hlit hlit2 hf e1 e5 e21 e22 e hlo T
    go_wp2_with fail
    refine (HA2.out _ HB.out).mono ?_
    rintro e u2 ⟨rfl, k2⟩
    replace X5 := Lib.hid (X5.out.step k2)
    replace X21 := Lib.hid (X21.out.step k2)
    replace HB := Lib.hid (bt HB.out k2)
    clear k2
    go_wp2_with fail
    refine (HA3.out _ HB.out).mono ?_
    rintro e u3 ⟨rfl, k3⟩
    replace X5 := Lib.hid (X5.out.step k3)
    replace X21 := Lib.hid (X21.out.step k3)
    replace HB := Lib.hid (bt HB.out k3)
    clear k3
    go_wp2_with fail
    refine (HA4.out _ HB.out).mono ?_
    rintro e u4 ⟨rfl, k4⟩
    replace X5 := Lib.hid (X5.out.step k4)
    replace X21 := Lib.hid (X21.out.step k4)
    replace HB := Lib.hid (bt HB.out k4)
    clear k4
    have HDa := dcd_any (a := (x2 : Int)) (b := (x3 : Int)) (c := (x4 : Int)) (by have := HX.out; omega)
    have HDd := Lib.hid (fun W (q : OpsT W) => implDecodeA (x2 : Int) (x3 : Int) (x4 : Int) W q)
    have HDs := Lib.hid (fun W => specDecodeA (x2 : Int) (x3 : Int) (x4 : Int) W)
    generalize dcdF (x2 : Int) (x3 : Int) (x4 : Int) = dd at HDa HDd HDs
    obtain ⟨⟨p, q, r⟩, dz⟩ := dd
    obtain ⟨hdz, hpq⟩ := HDa
    simp only at hdz hpq HDd HDs
    subst hdz
    have HPq := Lib.hid hpq
    clear hpq
    go_wp2_with fail
    refine (HDd.out _ (HTb.out.below HB.out)).mono ?_
    rintro e u5 ⟨rfl, k5⟩
    replace X5 := Lib.hid (X5.out.step k5)
    replace X21 := Lib.hid (X21.out.step k5)
    replace HB := Lib.hid (bt HB.out k5)
    clear k5
    obtain ⟨V1, hW⟩ : ∃ V1, V1 = u5.alloc (.cells #[.int .i64 p, .int .i64 q, .int .i64 r] 24) := ⟨_, rfl⟩
    have ka : Below u5.heap.size u5 V1 := by rw [hW]; exact alloc_below _ _
    replace X5 := Lib.hid (X5.out.step ka)
    replace X21 := Lib.hid (X21.out.step ka)
    replace HB := Lib.hid (bt HB.out ka)
    have X23 : Hid (Box V1 u5.heap.size 24 #[.int .i64 p, .int .i64 q, .int .i64 r]) := Lib.hid (by rw [hW]; exact Box.new _ _ _)
    clear ka
    go_wp2_with fail
    rw [← hW]
    clear hW
    obtain ⟨D23, hD⟩ : ∃ D23, D23 = u5.heap.size := ⟨_, rfl⟩
    rw [← hD] at X23 ⊢
    clear hD
    refine (HA2.out _ HB.out).mono ?_
    rintro e u6 ⟨rfl, k6⟩
    replace X5 := Lib.hid (X5.out.step k6)
    replace X21 := Lib.hid (X21.out.step k6)
    replace X23 := Lib.hid (X23.out.step k6)
    replace HB := Lib.hid (bt HB.out k6)
    clear k6
    go_wp2_with fail
    refine (HA3.out _ HB.out).mono ?_
    rintro e u7 ⟨rfl, k7⟩
    replace X5 := Lib.hid (X5.out.step k7)
    replace X21 := Lib.hid (X21.out.step k7)
    replace X23 := Lib.hid (X23.out.step k7)
    replace HB := Lib.hid (bt HB.out k7)
    clear k7
    go_wp2_with fail
    refine (HA4.out _ HB.out).mono ?_
    rintro e u8 ⟨rfl, k8⟩
    replace X5 := Lib.hid (X5.out.step k8)
    replace X21 := Lib.hid (X21.out.step k8)
    replace X23 := Lib.hid (X23.out.step k8)
    replace HB := Lib.hid (bt HB.out k8)
    clear k8
    go_wp2_with fail
    refine (HDs.out _).mono ?_
    rintro e u9 ⟨rfl, k9⟩
    replace X5 := Lib.hid (X5.out.step k9)
    replace X21 := Lib.hid (X21.out.step k9)
    replace X23 := Lib.hid (X23.out.step k9)
    replace HB := Lib.hid (bt HB.out k9)
    clear k9
    obtain ⟨V2, hW⟩ : ∃ V2, V2 = u9.alloc (.cells #[.int .i64 p, .int .i64 q, .int .i64 r] 24) := ⟨_, rfl⟩
    have ka : Below u9.heap.size u9 V2 := by rw [hW]; exact alloc_below _ _
    replace X5 := Lib.hid (X5.out.step ka)
    replace X21 := Lib.hid (X21.out.step ka)
    replace X23 := Lib.hid (X23.out.step ka)
    replace HB := Lib.hid (bt HB.out ka)
    have X25 : Hid (Box V2 u9.heap.size 24 #[.int .i64 p, .int .i64 q, .int .i64 r]) := Lib.hid (by rw [hW]; exact Box.new _ _ _)
    clear ka
    have hg1 := guardEqlI
    have hg2 := eqlI op reg arg
    have hg3 := eqlI p q r
    rcases HPq.out with hp22 | hpok
    · subst hp22
      have HFin := HB
      have fX50 := X5.out.cell 0 rfl; have fX51 := X5.out.cell 1 rfl; have fX52 := X5.out.cell 2 rfl; have fX210 := X21.out.cell 0 rfl; have fX211 := X21.out.cell 1 rfl; have fX212 := X21.out.cell 2 rfl; have fX230 := X23.out.cell 0 rfl; have fX231 := X23.out.cell 1 rfl; have fX232 := X23.out.cell 2 rfl; have fX250 := X25.out.cell 0 rfl; have fX251 := X25.out.cell 1 rfl; have fX252 := X25.out.cell 2 rfl
      rw [hW] at fX50 fX51 fX52 fX210 fX211 fX212 fX230 fX231 fX232 fX250 fX251 fX252
      go_wp2
      go_ret
      exact ⟨rfl, by rw [← hW]; exact HFin.out⟩
    · by_cases hp22 : p = 22
      · subst hp22
        have HFin := HB
        have fX50 := X5.out.cell 0 rfl; have fX51 := X5.out.cell 1 rfl; have fX52 := X5.out.cell 2 rfl; have fX210 := X21.out.cell 0 rfl; have fX211 := X21.out.cell 1 rfl; have fX212 := X21.out.cell 2 rfl; have fX230 := X23.out.cell 0 rfl; have fX231 := X23.out.cell 1 rfl; have fX232 := X23.out.cell 2 rfl; have fX250 := X25.out.cell 0 rfl; have fX251 := X25.out.cell 1 rfl; have fX252 := X25.out.cell 2 rfl
        rw [hW] at fX50 fX51 fX52 fX210 fX211 fX212 fX230 fX231 fX232 fX250 fX251 fX252
        go_wp2
        go_ret
        exact ⟨rfl, by rw [← hW]; exact HFin.out⟩
      · have hpb : (p == 22) = false := by simpa using hp22
        have HCk := Lib.hid (fun W (q9 : OpsT W) => implInstrOKA p q r W q9)
        rw [hpok] at HCk
        clear hpok
        have fX50 := X5.out.cell 0 rfl; have fX51 := X5.out.cell 1 rfl; have fX52 := X5.out.cell 2 rfl; have fX210 := X21.out.cell 0 rfl; have fX211 := X21.out.cell 1 rfl; have fX212 := X21.out.cell 2 rfl; have fX230 := X23.out.cell 0 rfl; have fX231 := X23.out.cell 1 rfl; have fX232 := X23.out.cell 2 rfl; have fX250 := X25.out.cell 0 rfl; have fX251 := X25.out.cell 1 rfl; have fX252 := X25.out.cell 2 rfl
        rw [hW] at fX50 fX51 fX52 fX210 fX211 fX212 fX230 fX231 fX232 fX250 fX251 fX252
        go_wp2_with fail
        rw [← hW]
        clear hW
        obtain ⟨D25, hD⟩ : ∃ D25, D25 = u9.heap.size := ⟨_, rfl⟩
        rw [← hD] at X25 ⊢
        clear hD
        clear fX50 fX51 fX52 fX210 fX211 fX212 fX230 fX231 fX232 fX250 fX251 fX252
        refine (HCk.out _ (HTb.out.below HB.out)).mono ?_
        rintro e u10 ⟨rfl, k10⟩
        replace X5 := Lib.hid (X5.out.step k10)
        replace X21 := Lib.hid (X21.out.step k10)
        replace X23 := Lib.hid (X23.out.step k10)
        replace X25 := Lib.hid (X25.out.step k10)
        replace HB := Lib.hid (bt HB.out k10)
        clear k10
        go_wp2
        go_ret
        exact ⟨rfl, HB.out⟩
end Go.Proofs.YtcchhbkbnbphhaaDoor
