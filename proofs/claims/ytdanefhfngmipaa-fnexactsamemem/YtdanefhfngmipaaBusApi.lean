/- impl.MemOK, impl.BusGet, impl.BusPut on leaves. -/
import Derived.Test.YtdanefhfngmipaaBusTop
namespace Go.Proofs.Ytdanefhfngmipaa
open Go.RowKit

/-- BusGet's answer. -/
def getF (r i zs : List Int) (gs : List Bool) (st a : Int) : Int × Int := if codeIf (okMem r i zs gs st) (adB a) = 0 then (getV r i zs gs readV st a, 0) else (0, codeIf (okMem r i zs gs st) (adB a))
/-- BusPut's answer. -/
def putF (r i zs : List Int) (gs : List Bool) (st a v : Int) : List Int × List Int × List Int × List Bool × Int × Int :=
  if codeIf (okMem r i zs gs st) (adB a && byB v) = 0 then (putR r a v, putI i a v, putZ zs gs st a v, putG gs st a, putS st a v, 0) else ([], [], [], [], 0, codeIf (okMem r i zs gs st) (adB a && byB v))
theorem codeIf0 {a b : Bool} (h : codeIf a b = 0) : a = true ∧ b = true := by unfold codeIf at h; cases a <;> cases b <;> simp_all
theorem ownA4 {w : World} {lo g h hi L R : Nat} {A0 A1 A2 A3 : Option Addr} {c0 c1 c2 c3 : Nat} {d0 d1 d2 : List Int} {d3 : List Bool} (a : OwnI w lo g A0 d0) (b : OwnI w g h A1 d1) (c : OwnI w h hi A2 d2) (d : OwnB w h hi A3 d3) (q0 : L ≤ lo) (q1 : lo ≤ g) (q2 : g ≤ h) (q3 : h ≤ hi) (q4 : hi ≤ R) :
    OwnA w L R [.slice A0 d0.length c0, .slice A1 d1.length c1, .slice A2 d2.length c2, .slice A3 d3.length c3] [.I d0, .I d1, .I d2, .B d3] :=
  OwnA.append (lo := L) (hi := h) (L := L) (R := R) (OwnA.append (lo := lo) (hi := g) (lo' := g) (hi' := h) (L := L) (R := h) (OwnA.one (d := .I d0) ⟨A0, c0, rfl, a⟩) (OwnA.one (d := .I d1) ⟨A1, c1, rfl, b⟩) (.inl (Nat.le_refl _)) q0 (by omega) q2 (Nat.le_refl _)) (ownIB c d) (.inl (Nat.le_refl _)) (Nat.le_refl _) (by omega) (by omega) q4
theorem ownA4_nil (w : World) (L R : Nat) (hq : L ≤ R) : OwnA w L R [.slice none 0 0, .slice none 0 0, .slice none 0 0, .slice none 0 0] [.I [], .I [], .I [], .B []] :=
  ownA4 (lo := L) (g := L) (h := L) (hi := L) (d0 := []) (d1 := []) (d2 := []) (d3 := []) (.inl rfl) (.inl rfl) (.inl rfl) (.inl rfl) (Nat.le_refl _) (Nat.le_refl _) (Nat.le_refl _) (Nat.le_refl _) hq

section
variable (A0 A1 A2 A3 : Option Addr) (n0 n1 n2 n3 c0 c1 c2 c3 : Nat) (d0 d1 d2 : List Int) (d3 : List Bool) (d4 : Int) (w : World)
set_option maxRecDepth 100000 in
theorem implMemOK (l0 : d0.length = n0) (l1 : d1.length = n1) (l2 : d2.length = n2) (l3 : d3.length = n3) (m0 : n0 ≤ maxLen) (m1 : n1 ≤ maxLen) (m2 : n2 ≤ maxLen) (m3 : n3 ≤ maxLen) (h0 : IntL w A0 d0) (h1 : IntL w A1 d1) (h2 : IntL w A2 d2) :
    Calls Try.prog 18 #[.agg #[.slice A0 n0 c0, .slice A1 n1 c1, .slice A2 n2 c2, .slice A3 n3 c3, .int .i64 d4]] w fun e w' => e = .returned (.bool (okMem d0 d1 d2 d3 d4)) ∧ Below w.heap.size w w' := by
  have hb0 := alloc_below w (.cells #[.slice A0 n0 c0, .slice A1 n1 c1, .slice A2 n2 c2, .slice A3 n3 c3, .int .i64 d4] 28)
  have HV := Lib.hid (memValid A0 A1 A2 A3 n0 n1 n2 n3 c0 c1 c2 c3 d0 d1 d2 d3 d4 _ l0 l1 l2 l3 m0 m1 m2 m3 (h0.below hb0) (h1.below hb0) (h2.below hb0))
  clear l0 l1 l2 l3 m0 m1 m2 m3 h0 h1 h2
  go_enter Try.func18, Try.ntmps18
  go_wp2_with fail
  refine HV.out.mono ?_
  rintro e w1 ⟨rfl, hb1⟩
  go_wp2
  go_ret
  exact ⟨rfl, bt hb0 hb1⟩
set_option maxRecDepth 100000 in
theorem memCheck (a v : Int) (l0 : d0.length = n0) (l1 : d1.length = n1) (l2 : d2.length = n2) (l3 : d3.length = n3) (m0 : n0 ≤ maxLen) (m1 : n1 ≤ maxLen) (m2 : n2 ≤ maxLen) (m3 : n3 ≤ maxLen) (h0 : IntL w A0 d0) (h1 : IntL w A1 d1) (h2 : IntL w A2 d2) :
    Calls Try.prog 43 #[.agg #[.slice A0 n0 c0, .slice A1 n1 c1, .slice A2 n2 c2, .slice A3 n3 c3, .int .i64 d4], .int .i64 a, .int .i64 v] w fun e w' => e = .returned (.int .i64 (codeIf (okMem d0 d1 d2 d3 d4) (adB a && byB v))) ∧ Below w.heap.size w w' := by
  have hb0 := alloc_below w (.cells #[.slice A0 n0 c0, .slice A1 n1 c1, .slice A2 n2 c2, .slice A3 n3 c3, .int .i64 d4] 28)
  have HV := Lib.hid (memValid A0 A1 A2 A3 n0 n1 n2 n3 c0 c1 c2 c3 d0 d1 d2 d3 d4 _ l0 l1 l2 l3 m0 m1 m2 m3 (h0.below hb0) (h1.below hb0) (h2.below hb0))
  clear l0 l1 l2 l3 m0 m1 m2 m3 h0 h1 h2
  generalize okMem d0 d1 d2 d3 d4 = ok at HV
  go_enter Try.func43, Try.ntmps43
  go_wp2_with fail
  refine HV.out.mono ?_
  rintro e w1 ⟨rfl, hb1⟩
  have hb := bt hb0 hb1
  cases ok
  · go_wp2
    go_ret
    exact ⟨rfl, hb⟩
  · by_cases h1 : adB a = true
    · by_cases h2 : byB v = true
      · go_wp2_with (first | (go_at_call 52; refine (isAddress _ _).mono ?_; rintro e w' ⟨rfl, rfl⟩; rw [h1]) | (go_at_call 82; refine (isByte _ _).mono ?_; rintro e w' ⟨rfl, rfl⟩; rw [h2]))
        go_ret
        exact ⟨by rw [h1, h2]; rfl, hb⟩
      · have h2' : byB v = false := by simpa using h2
        go_wp2_with (first | (go_at_call 52; refine (isAddress _ _).mono ?_; rintro e w' ⟨rfl, rfl⟩; rw [h1]) | (go_at_call 82; refine (isByte _ _).mono ?_; rintro e w' ⟨rfl, rfl⟩; rw [h2']))
        go_ret
        exact ⟨by rw [h1, h2']; rfl, hb⟩
    · have h1' : adB a = false := by simpa using h1
      go_wp2_with (first | (go_at_call 52; refine (isAddress _ _).mono ?_; rintro e w' ⟨rfl, rfl⟩; rw [h1']))
      go_ret
      exact ⟨by rw [h1']; rfl, hb⟩

set_option maxRecDepth 100000 in
set_option maxHeartbeats 2000000 in
theorem implBusGet (a : Int) (l0 : d0.length = n0) (l1 : d1.length = n1) (l2 : d2.length = n2) (l3 : d3.length = n3) (m0 : n0 ≤ maxLen) (m1 : n1 ≤ maxLen) (m2 : n2 ≤ maxLen) (m3 : n3 ≤ maxLen) (h0 : IntL w A0 d0) (h1 : IntL w A1 d1) (h2 : IntL w A2 d2) (h3 : BoolL w A3 d3) :
    Calls Try.prog 15 #[.agg #[.slice A0 n0 c0, .slice A1 n1 c1, .slice A2 n2 c2, .slice A3 n3 c3, .int .i64 d4], .int .i64 a] w fun e w' => e = .returned (.tuple #[.int .i64 (getF d0 d1 d2 d3 d4 a).1, .int .i64 (getF d0 d1 d2 d3 d4 a).2]) ∧ Below w.heap.size w w' := by
  have hb0 := alloc_below w (.cells #[.slice A0 n0 c0, .slice A1 n1 c1, .slice A2 n2 c2, .slice A3 n3 c3, .int .i64 d4] 28)
  have X0 := Lib.hid (Box.new w 28 #[.slice A0 n0 c0, .slice A1 n1 c1, .slice A2 n2 c2, .slice A3 n3 c3, .int .i64 d4])
  have HV := Lib.hid (memCheck A0 A1 A2 A3 n0 n1 n2 n3 c0 c1 c2 c3 d0 d1 d2 d3 d4 _ a 0 l0 l1 l2 l3 m0 m1 m2 m3 (h0.below hb0) (h1.below hb0) (h2.below hb0))
  rw [show (adB a && byB 0) = adB a from by rw [show byB 0 = true from rfl, Bool.and_true]] at HV
  have H := Lib.hid (And.intro (And.intro l0 (And.intro l1 (And.intro l2 l3))) (And.intro h0 (And.intro h1 (And.intro h2 h3))))
  have HR : Hid (getF d0 d1 d2 d3 d4 a = if codeIf (okMem d0 d1 d2 d3 d4) (adB a) = 0 then (getV d0 d1 d2 d3 readV d4 a, 0) else (0, codeIf (okMem d0 d1 d2 d3 d4) (adB a))) := Lib.hid rfl
  generalize getF d0 d1 d2 d3 d4 a = r at HR
  have HOk : Hid (codeIf (okMem d0 d1 d2 d3 d4) (adB a) = 0 → okMem d0 d1 d2 d3 d4 = true ∧ adB a = true) := Lib.hid codeIf0
  generalize codeIf (okMem d0 d1 d2 d3 d4) (adB a) = cd at HV HR HOk
  clear l0 l1 l2 l3 m0 m1 m2 m3 h0 h1 h2 h3
  go_enter Try.func15, Try.ntmps15
  go_wp2_with fail
  refine HV.out.mono ?_
  rintro e w1 ⟨rfl, hb1⟩
  have hb := bt hb0 hb1
  by_cases hz : cd = 0
  · subst hz
    obtain ⟨hok, ha⟩ := HOk.out rfl
    obtain ⟨q0, q1, q2, q3, q4⟩ := okMem_len hok
    have q5 := okFlash_len q4
    obtain rfl : n0 = 256 := by have := H.out.1.1; omega
    obtain rfl : n1 = 32 := by have := H.out.1.2.1; omega
    obtain rfl : n2 = 256 := by have := H.out.1.2.2.1; omega
    obtain rfl : n3 = 16 := by have := H.out.1.2.2.2; omega
    obtain ⟨k, rfl⟩ : ∃ k : Nat, a = k := ⟨a.toNat, by have := adB_range ha; omega⟩
    have hk : k < 4096 := by have := adB_range ha; omega
    have HBo := Lib.hid (busOf A0 A1 A2 A3 c0 c1 c2 c3 d0 d1 d2 d3 d4 w1 q0 q1 q5.1 q5.2.1 q5.2.2.2 (H.out.2.1.below hb) (H.out.2.2.1.below hb) (H.out.2.2.2.1.below hb) (H.out.2.2.2.2.below hb))
    have HRd := Lib.hid (fun lo g b0 b1 b2 b3 B0 B1 e0 e1 W => busRead lo g b0 b1 b2 b3 B0 B1 e0 e1 d0 d1 d2 d3 d4 W k hk q0 q1 q5.1 q5.2.1 q5.2.2.2)
    have HRz : Hid (r = (getV d0 d1 d2 d3 readV d4 k, 0)) := Lib.hid (by rw [HR.out, if_pos rfl])
    generalize getV d0 d1 d2 d3 readV d4 k = z at HRd HRz
    have f0 := (X0.out.step hb1).cell 0 rfl
    have f1 := (X0.out.step hb1).cell 1 rfl
    have f2 := (X0.out.step hb1).cell 2 rfl
    have f3 := (X0.out.step hb1).cell 3 rfl
    have f4 := (X0.out.step hb1).cell 4 rfl
    clear q0 q1 q2 q3 q4 q5 hok ha H HR HOk
    go_wp2_with fail
    refine HBo.out.mono ?_
    rintro e w2 ⟨g, b0, b1, b2, b3, B0, B1, e0, e1, rfl, BA, hb2⟩
    have HRx := Lib.hid (HRd.out w1.heap.size g b0 b1 b2 b3 B0 B1 e0 e1 w2 BA.out)
    clear BA
    go_wp2_with fail
    refine HRx.out.mono ?_
    rintro e w3 ⟨rfl, hb3⟩
    go_wp2
    refine bodyPost_ret (v := .tuple #[.int .i64 z, .int .i64 0]) (by simp [results, Try.results15, go_sem]) rfl ?_
    exact ⟨by rw [HRz.out], bt (bt hb hb2) hb3⟩
  · have hcb : (cd != 0) = true := by simp [hz]
    have HRz : Hid (r = (0, cd)) := Lib.hid (by rw [HR.out, if_neg hz])
    clear hz HR HOk H
    go_wp2
    refine bodyPost_ret (v := .tuple #[.int .i64 0, .int .i64 cd]) (by simp [results, Try.results15, go_sem]) rfl ?_
    exact ⟨by rw [HRz.out], hb⟩

/-- A memory of the call's own, and a code. -/
def GivesMemCode (r i zs : List Int) (gs : List Bool) (st code : Int) (w : World) (e : Ending) (w' : World) : Prop :=
  ∃ A0 A1 A2 A3 c0 c1 c2 c3, e = .returned (.tuple #[.agg #[.slice A0 r.length c0, .slice A1 i.length c1, .slice A2 zs.length c2, .slice A3 gs.length c3, .int .i64 st], .int .i64 code]) ∧ Hid (OwnA w' w.heap.size w'.heap.size [.slice A0 r.length c0, .slice A1 i.length c1, .slice A2 zs.length c2, .slice A3 gs.length c3] [.I r, .I i, .I zs, .B gs]) ∧ Below w.heap.size w w'
theorem OwnI.far5 {w : World} {lo hi : Nat} {A : Option Addr} {zs : List Int} (h : OwnI w lo hi A zs) {b : Nat} {cs : Array Value} (X : Box w b 28 cs) (u0 u1 u2 u3 u4 : Value) : OwnI (((((w.setCell ⟨b, 0, none⟩ u0).setCell ⟨b, 1, none⟩ u1).setCell ⟨b, 2, none⟩ u2).setCell ⟨b, 3, none⟩ u3).setCell ⟨b, 4, none⟩ u4) lo hi A zs :=
  ((((h.farB X (by decide) 0 u0).farB (X.set 0 u0) (by decide) 1 u1).farB ((X.set 0 u0).set 1 u1) (by decide) 2 u2).farB (((X.set 0 u0).set 1 u1).set 2 u2) (by decide) 3 u3).farB ((((X.set 0 u0).set 1 u1).set 2 u2).set 3 u3) (by decide) 4 u4
theorem OwnB.far5 {w : World} {lo hi : Nat} {A : Option Addr} {gs : List Bool} (h : OwnB w lo hi A gs) {b : Nat} {cs : Array Value} (X : Box w b 28 cs) (u0 u1 u2 u3 u4 : Value) : OwnB (((((w.setCell ⟨b, 0, none⟩ u0).setCell ⟨b, 1, none⟩ u1).setCell ⟨b, 2, none⟩ u2).setCell ⟨b, 3, none⟩ u3).setCell ⟨b, 4, none⟩ u4) lo hi A gs :=
  ((((h.far X (by decide) 0 u0).far (X.set 0 u0) (by decide) 1 u1).far ((X.set 0 u0).set 1 u1) (by decide) 2 u2).far (((X.set 0 u0).set 1 u1).set 2 u2) (by decide) 3 u3).far ((((X.set 0 u0).set 1 u1).set 2 u2).set 3 u3) (by decide) 4 u4
theorem below5 {w0 w : World} {b : Nat} (h : Below w0.heap.size w0 w) (hb : w0.heap.size ≤ b) (u0 u1 u2 u3 u4 : Value) : Below w0.heap.size w0 (((((w.setCell ⟨b, 0, none⟩ u0).setCell ⟨b, 1, none⟩ u1).setCell ⟨b, 2, none⟩ u2).setCell ⟨b, 3, none⟩ u3).setCell ⟨b, 4, none⟩ u4) :=
  ((((h.setCell (p := ⟨b, 0, none⟩) hb u0).setCell (p := ⟨b, 1, none⟩) hb u1).setCell (p := ⟨b, 2, none⟩) hb u2).setCell (p := ⟨b, 3, none⟩) hb u3).setCell (p := ⟨b, 4, none⟩) hb u4
theorem size5 (w : World) (b : Nat) (u0 u1 u2 u3 u4 : Value) : (((((w.setCell ⟨b, 0, none⟩ u0).setCell ⟨b, 1, none⟩ u1).setCell ⟨b, 2, none⟩ u2).setCell ⟨b, 3, none⟩ u3).setCell ⟨b, 4, none⟩ u4).heap.size = w.heap.size := by simp [World.setCell]

set_option maxRecDepth 100000 in
set_option maxHeartbeats 4000000 in
theorem implBusPut (a v : Int) (l0 : d0.length = n0) (l1 : d1.length = n1) (l2 : d2.length = n2) (l3 : d3.length = n3) (m0 : n0 ≤ maxLen) (m1 : n1 ≤ maxLen) (m2 : n2 ≤ maxLen) (m3 : n3 ≤ maxLen) (h0 : IntL w A0 d0) (h1 : IntL w A1 d1) (h2 : IntL w A2 d2) (h3 : BoolL w A3 d3) :
    Calls Try.prog 13 #[.agg #[.slice A0 n0 c0, .slice A1 n1 c1, .slice A2 n2 c2, .slice A3 n3 c3, .int .i64 d4], .int .i64 a, .int .i64 v] w (GivesMemCode (putF d0 d1 d2 d3 d4 a v).1 (putF d0 d1 d2 d3 d4 a v).2.1 (putF d0 d1 d2 d3 d4 a v).2.2.1 (putF d0 d1 d2 d3 d4 a v).2.2.2.1 (putF d0 d1 d2 d3 d4 a v).2.2.2.2.1 (putF d0 d1 d2 d3 d4 a v).2.2.2.2.2 w) := by
  obtain ⟨W0, hW0⟩ : ∃ W0, W0 = ((w.alloc (.cells #[.slice A0 n0 c0, .slice A1 n1 c1, .slice A2 n2 c2, .slice A3 n3 c3, .int .i64 d4] 28)).alloc (.cells #[.slice none 0 0, .slice none 0 0, .slice none 0 0, .slice none 0 0, .int .i64 0] 28)) := ⟨_, rfl⟩
  have hb0 : Below w.heap.size w W0 := by rw [hW0]; exact bt (alloc_below _ _) (alloc_below _ _)
  have X0 : Hid (Box W0 w.heap.size 28 #[.slice A0 n0 c0, .slice A1 n1 c1, .slice A2 n2 c2, .slice A3 n3 c3, .int .i64 d4]) := Lib.hid (by rw [hW0]; exact (Box.new _ _ _).alloc _)
  have Y0 : Hid (Box W0 (w.heap.size + 1) 28 #[.slice none 0 0, .slice none 0 0, .slice none 0 0, .slice none 0 0, .int .i64 0]) := Lib.hid (by rw [hW0]; simpa using Box.new (w.alloc (.cells #[.slice A0 n0 c0, .slice A1 n1 c1, .slice A2 n2 c2, .slice A3 n3 c3, .int .i64 d4] 28)) 28 #[.slice none 0 0, .slice none 0 0, .slice none 0 0, .slice none 0 0, .int .i64 0])
  have HV := Lib.hid (memCheck A0 A1 A2 A3 n0 n1 n2 n3 c0 c1 c2 c3 d0 d1 d2 d3 d4 W0 a v l0 l1 l2 l3 m0 m1 m2 m3 (h0.below hb0) (h1.below hb0) (h2.below hb0))
  have H := Lib.hid (And.intro (And.intro l0 (And.intro l1 (And.intro l2 l3))) (And.intro h0 (And.intro h1 (And.intro h2 h3))))
  have HR : Hid (putF d0 d1 d2 d3 d4 a v = if codeIf (okMem d0 d1 d2 d3 d4) (adB a && byB v) = 0 then (putR d0 a v, putI d1 a v, putZ d2 d3 d4 a v, putG d3 d4 a, putS d4 a v, 0) else ([], [], [], [], 0, codeIf (okMem d0 d1 d2 d3 d4) (adB a && byB v))) := Lib.hid rfl
  generalize putF d0 d1 d2 d3 d4 a v = r at HR
  have HOk : Hid (codeIf (okMem d0 d1 d2 d3 d4) (adB a && byB v) = 0 → okMem d0 d1 d2 d3 d4 = true ∧ (adB a && byB v) = true) := Lib.hid codeIf0
  generalize codeIf (okMem d0 d1 d2 d3 d4) (adB a && byB v) = cd at HV HR HOk
  have HW0 := Lib.hid hW0
  clear l0 l1 l2 l3 m0 m1 m2 m3 h0 h1 h2 h3 hW0
  go_enter Try.func13, Try.ntmps13
  go_wp2_with fail
  rw [← HW0.out]
  refine HV.out.mono ?_
  rintro e w1 ⟨rfl, hb1⟩
  have hb := bt hb0 hb1
  have Y1 := Lib.hid (Y0.out.step hb1)
  by_cases hz : cd = 0
  · subst hz
    obtain ⟨hok, hav⟩ := HOk.out rfl
    rw [Bool.and_eq_true] at hav
    obtain ⟨ha, hv⟩ := hav
    obtain ⟨q0, q1, q2, q3, q4⟩ := okMem_len hok
    have q5 := okFlash_len q4
    obtain rfl : n0 = 256 := by have := H.out.1.1; omega
    obtain rfl : n1 = 32 := by have := H.out.1.2.1; omega
    obtain rfl : n2 = 256 := by have := H.out.1.2.2.1; omega
    obtain rfl : n3 = 16 := by have := H.out.1.2.2.2; omega
    obtain ⟨k, rfl⟩ : ∃ k : Nat, a = k := ⟨a.toNat, by have := adB_range ha; omega⟩
    obtain ⟨u, rfl⟩ : ∃ u : Nat, v = u := ⟨v.toNat, by have := byB_range hv; omega⟩
    have hk : k < 4096 := by have := adB_range ha; omega
    have hu : u < 256 := by have := byB_range hv; omega
    have HBo := Lib.hid (busOf A0 A1 A2 A3 c0 c1 c2 c3 d0 d1 d2 d3 d4 w1 q0 q1 q5.1 q5.2.1 q5.2.2.2 (H.out.2.1.below hb) (H.out.2.2.1.below hb) (H.out.2.2.2.1.below hb) (H.out.2.2.2.2.below hb))
    have HWr := Lib.hid (fun lo g b0 b1 b2 b3 B0 B1 e0 e1 W => busWrite lo g b0 b1 b2 b3 B0 B1 e0 e1 d0 d1 d2 d3 d4 W k u hk hu q0 q1 q5.1 q5.2.1 q5.2.2.1 q5.2.2.2)
    have HMm := Lib.hid (fun lo g b0 b1 b2 b3 B0 B1 e0 e1 W => busMem lo g b0 b1 b2 b3 B0 B1 e0 e1 (putR d0 k u) (putI d1 k u) (putZ d2 d3 d4 k u) (putG d3 d4 k) (putS d4 k u) W (by rw [putZ_len]; exact q5.1) (by rw [putG_len]; exact q5.2.1) (by
      unfold putZ
      split
      · exact cycZ_range q5.2.2.2 (by omega)
      · exact q5.2.2.2))
    have HRz : Hid (r = (putR d0 k u, putI d1 k u, putZ d2 d3 d4 k u, putG d3 d4 k, putS d4 k u, 0)) := Lib.hid (by rw [HR.out, if_pos rfl])
    have HLn : Hid ((putR d0 k u).length = 256 ∧ (putI d1 k u).length = 32 ∧ (putZ d2 d3 d4 k u).length = 256 ∧ (putG d3 d4 k).length = 16) := Lib.hid ⟨by rw [putR_len]; exact q0, by rw [putI_len]; exact q1, by rw [putZ_len]; exact q5.1, by rw [putG_len]; exact q5.2.1⟩
    generalize putR d0 k u = r0 at HWr HMm HRz HLn
    generalize putI d1 k u = r1 at HWr HMm HRz HLn
    generalize putZ d2 d3 d4 k u = r2 at HWr HMm HRz HLn
    generalize putG d3 d4 k = r3 at HWr HMm HRz HLn
    generalize putS d4 k u = r4 at HWr HMm HRz
    have f0 := (X0.out.step hb1).cell 0 rfl
    have f1 := (X0.out.step hb1).cell 1 rfl
    have f2 := (X0.out.step hb1).cell 2 rfl
    have f3 := (X0.out.step hb1).cell 3 rfl
    have f4 := (X0.out.step hb1).cell 4 rfl
    clear q0 q1 q2 q3 q4 q5 hok ha hv H HR HOk X0 Y0 HV
    go_wp2_with fail
    refine HBo.out.mono ?_
    rintro e w2 ⟨g, b0, b1, b2, b3, B0, B1, e0, e1, rfl, BA, hb2⟩
    have hb3 := alloc_below w2 (.cells #[.pointer (some ⟨b0, 0, none⟩), .pointer (some ⟨b1, 0, none⟩), .pointer (some ⟨b2, 0, none⟩), .pointer (some ⟨b3, 0, none⟩)] 70)
    have Z3 := Lib.hid (Box.new w2 70 #[.pointer (some ⟨b0, 0, none⟩), .pointer (some ⟨b1, 0, none⟩), .pointer (some ⟨b2, 0, none⟩), .pointer (some ⟨b3, 0, none⟩)])
    have HWx := Lib.hid (HWr.out w1.heap.size g b0 b1 b2 b3 B0 B1 e0 e1 _ (BA.out.step hb3))
    have Y3 := Lib.hid ((Y1.out.step hb2).step hb3)
    clear BA HWr HBo f0 f1 f2 f3 f4
    go_wp2_with fail
    refine HWx.out.mono ?_
    rintro e w4 ⟨rfl, BA, BO, hb4⟩
    have Z4 := BO.out _ _ _ (by decide) (by decide) Z3.out
    have Y4 := Lib.hid (BO.out _ _ _ (by decide) (by decide) Y3.out)
    have hb14 : Below w.heap.size w w4 := ((bt hb hb2).trans ((hb3.mono (bt hb hb2).size))).trans (hb4.mono hb.size)
    have z0 := Z4.cell 0 rfl
    have z1 := Z4.cell 1 rfl
    have z2 := Z4.cell 2 rfl
    have z3 := Z4.cell 3 rfl
    have HMx := Lib.hid (HMm.out w1.heap.size g b0 b1 b2 b3 B0 B1 e0 e1 w4 BA.out)
    clear Z4 Z3 Y3 BO HWx HMm hb3 hb4
    go_wp2_with fail
    refine HMx.out.mono ?_
    rintro e w5 ⟨A, c, C, d, rfl, S, Q, hb5⟩
    have Y5 := Y4.out.step hb5
    have s0 := Y5.cell 0 rfl
    have s1 := Y5.cell 1 rfl
    have s2 := Y5.cell 2 rfl
    have s3 := Y5.cell 3 rfl
    have s4 := Y5.cell 4 rfl
    have s0z := Y5.frozen 0
    have s1z := Y5.frozen 1
    have s2z := Y5.frozen 2
    have s3z := Y5.frozen 3
    have s4z := Y5.frozen 4
    have HY5 := Lib.hid Y5
    have HQ : Hid (w.heap.size ≤ w1.heap.size ∧ w.heap.size + 1 < w5.heap.size) := Lib.hid ⟨hb.size, Y5.lt⟩
    clear Y5 Y4 HMx z0 z1 z2 z3
    go_wp2
    refine bodyPost_ret (v := .tuple #[.agg #[.slice B0 256 e0, .slice B1 32 e1, .slice A 256 c, .slice C 16 d, .int .i64 r4], .int .i64 0]) (by simp [results, Try.results13, go_sem, s0, s1, s2, s3, s4]) rfl ?_
    rw [HRz.out]
    have L := HLn.out
    refine ⟨B0, B1, A, C, e0, e1, c, d, ?_, Lib.hid ?_, below5 (bt hb14 hb5) (by omega) _ _ _ _ _⟩
    · rw [L.1, L.2.1, L.2.2.1, L.2.2.2]
    · exact ownA4 ((BA.out.R.below hb5).far5 HY5.out _ _ _ _ _) ((BA.out.I.below hb5).far5 HY5.out _ _ _ _ _) (S.out.far5 HY5.out _ _ _ _ _) (Q.out.far5 HY5.out _ _ _ _ _) HQ.out.1 BA.out.l.2.2.2.2.1 BA.out.l.2.2.2.2.2 hb5.size (by rw [size5]; exact Nat.le_refl _)
  · have hcb : (cd != 0) = true := by simp [hz]
    have HRz : Hid (r = ([], [], [], [], 0, cd)) := Lib.hid (by rw [HR.out, if_neg hz])
    have s0 := Y1.out.cell 0 rfl
    have s1 := Y1.out.cell 1 rfl
    have s2 := Y1.out.cell 2 rfl
    have s3 := Y1.out.cell 3 rfl
    have s4 := Y1.out.cell 4 rfl
    have s0z := Y1.out.frozen 0
    have s1z := Y1.out.frozen 1
    have s2z := Y1.out.frozen 2
    have s3z := Y1.out.frozen 3
    have s4z := Y1.out.frozen 4
    clear hz HR HOk H X0 Y0
    go_wp2
    refine bodyPost_ret (v := .tuple #[.agg #[.slice none 0 0, .slice none 0 0, .slice none 0 0, .slice none 0 0, .int .i64 0], .int .i64 cd]) (by simp [results, Try.results13, go_sem, s0, s1, s2, s3, s4]) rfl ?_
    rw [HRz.out]
    exact ⟨none, none, none, none, 0, 0, 0, 0, rfl, Lib.hid (ownA4_nil _ _ _ (by rw [size5]; exact hb.size)), below5 hb (by omega) _ _ _ _ _⟩
end
end Go.Proofs.Ytdanefhfngmipaa
