/- Texts of this claim, one behind the other: BusTop, BusApi, Proc. -/
import Derived.Test.YtcchhbkbnbphhaaGreatDoorBusMem
import Derived.Test.YtcchhbkbnbphhaaGreatDoorM8
/- impl.bus.read, impl.bus.write, impl.Mem.check, impl.BusGet, impl.BusPut, impl.MemOK. -/
namespace Go.Proofs.YtcchhbkbnbphhaaGreatDoor
open Go.RowKit

section
variable (lo g b0 b1 b2 b3 : Nat) (A0 A1 : Option Addr) (c0 c1 : Nat) (ram io zs : List Int) (gs : List Bool) (st : Int) (w : World)
set_option maxRecDepth 100000 in
theorem busRead (k : Nat) (hk : k < 4096) (hr : ram.length = 256) (hi : io.length = 32) (hz : zs.length = 256) (hg : gs.length = 16) (hzs : ∀ z ∈ zs, 0 ≤ z ∧ z ≤ 255) (B : BusAt w lo g b0 b1 b2 b3 A0 A1 c0 c1 ram io zs gs st) :
    Calls Tryz.prog 81 #[.agg #[.pointer (some ⟨b0, 0, none⟩), .pointer (some ⟨b1, 0, none⟩), .pointer (some ⟨b2, 0, none⟩), .pointer (some ⟨b3, 0, none⟩)], .int .i64 k] w fun e w' => e = .returned (.int .i64 (getV ram io zs gs readV st k)) ∧ Below w.heap.size w w' := by
  have hb0 := alloc_below w (.cells #[.pointer (some ⟨b0, 0, none⟩), .pointer (some ⟨b1, 0, none⟩), .pointer (some ⟨b2, 0, none⟩), .pointer (some ⟨b3, 0, none⟩)] 57)
  have HRe := Lib.hid (fun W => regionOf (k : Int) W (by omega) (by omega))
  have HB := Lib.hid B
  have HLs := Lib.hid (And.intro hr (And.intro hi (And.intro hz (And.intro hg hzs))))
  obtain ⟨r, hv⟩ : ∃ r, getV ram io zs gs readV st k = r := ⟨_, rfl⟩
  rw [hv]
  have HV := Lib.hid hv
  clear hr hi hz hg hzs B hv
  rcases reg_ways k hk with ⟨h1, e1, e2⟩ | ⟨h1, h2, e1, e2⟩ | ⟨h1, h2, e1, e2⟩ | ⟨h1, h2, e1, e2⟩
  · rw [e1, e2] at HRe
    have HE : Hid (r = ram.getD k 0) := Lib.hid (by rw [← HV.out]; unfold getV; rw [e1, e2, if_pos rfl]; rfl)
    clear e1 e2 HV
    go_enter Tryz.func81, Tryz.ntmps81
    go_wp2_with fail
    refine (HRe.out _).mono ?_
    rintro e w1 ⟨rfl, rfl⟩
    go_wp2_with fail
    refine (busDevice1 _ _ _ _ _).mono ?_
    rintro e w2 ⟨rfl, hb2⟩
    have hb := bt hb0 hb2
    have HM := Lib.hid (workRead b0 k c0 256 A0 ram w2 HLs.out.1 rfl h1 (HB.out.step hb).r (HB.out.step hb).R.reads)
    go_wp2_with fail
    refine HM.out.mono ?_
    rintro e w3 ⟨rfl, rfl⟩
    go_wp2
    go_ret
    exact ⟨ret_int HE.out.symm, hb⟩
  · rw [e1, e2] at HRe
    have HE : Hid (r = io.getD (k - 256) 0) := Lib.hid (by rw [← HV.out]; unfold getV; rw [e1, e2, if_neg (by omega), if_pos rfl]; rfl)
    clear e1 e2 HV
    obtain ⟨j, hj⟩ : ∃ j, k - 256 = j := ⟨_, rfl⟩
    rw [hj] at HRe HE
    have hj32 : j < 32 := by omega
    clear hj
    go_enter Tryz.func81, Tryz.ntmps81
    go_wp2_with fail
    refine (HRe.out _).mono ?_
    rintro e w1 ⟨rfl, rfl⟩
    go_wp2_with fail
    refine (busDevice2 _ _ _ _ _).mono ?_
    rintro e w2 ⟨rfl, hb2⟩
    have hb := bt hb0 hb2
    have HM := Lib.hid (regsRead b1 j c1 32 A1 io w2 HLs.out.2.1 rfl hj32 (HB.out.step hb).i (HB.out.step hb).I.reads)
    go_wp2_with fail
    refine HM.out.mono ?_
    rintro e w3 ⟨rfl, rfl⟩
    go_wp2
    go_ret
    exact ⟨ret_int HE.out.symm, hb⟩
  · rw [e1, e2] at HRe
    have HE : Hid (r = readV zs gs st (k - 512)) := Lib.hid (by rw [← HV.out]; unfold getV; rw [e1, e2, if_neg (by omega), if_neg (by omega), if_pos rfl]; rfl)
    clear e1 e2 HV
    obtain ⟨j, hj⟩ : ∃ j, k - 512 = j := ⟨_, rfl⟩
    rw [hj] at HRe HE
    have hj32 : j ≤ 255 := by omega
    clear hj
    go_enter Tryz.func81, Tryz.ntmps81
    go_wp2_with fail
    refine (HRe.out _).mono ?_
    rintro e w1 ⟨rfl, rfl⟩
    go_wp2_with fail
    refine (busDevice3 _ _ _ _ _).mono ?_
    rintro e w2 ⟨rfl, hb2⟩
    have hb := bt hb0 hb2
    have HM := Lib.hid (cartRead b2 zs gs st w2 j HLs.out.2.2.1 HLs.out.2.2.2.1 hj32 HLs.out.2.2.2.2 (HB.out.step hb).f)
    go_wp2_with fail
    refine HM.out.mono ?_
    rintro e w3 ⟨rfl, hb3⟩
    go_wp2
    go_ret
    exact ⟨ret_int HE.out.symm, bt hb hb3⟩
  · rw [e1, e2] at HRe
    have HE : Hid (r = 255) := Lib.hid (by rw [← HV.out]; unfold getV; rw [e1, if_neg (by omega), if_neg (by omega), if_neg (by omega)])
    clear e1 e2 HV
    go_enter Tryz.func81, Tryz.ntmps81
    go_wp2_with fail
    refine (HRe.out _).mono ?_
    rintro e w1 ⟨rfl, rfl⟩
    go_wp2_with fail
    refine (busDevice0 _ _ _ _ _).mono ?_
    rintro e w2 ⟨rfl, hb2⟩
    have hb := bt hb0 hb2
    go_wp2_with fail
    refine (openRead _ _ _).mono ?_
    rintro e w3 ⟨rfl, rfl⟩
    go_wp2
    go_ret
    exact ⟨ret_int HE.out.symm, hb⟩

theorem Writes.after {lo g b0 b1 b2 b3 : Nat} {A0 A1 : Option Addr} {c0 c1 : Nat} {ram io zs : List Int} {gs : List Bool} {st : Int} {w w1 : World} {e : Ending} {w' : World} (hb : Below w.heap.size w w1) (hl : lo ≤ w.heap.size) (h : Writes lo g b0 b1 b2 b3 A0 A1 c0 c1 ram io zs gs st w1 e w') : Writes lo g b0 b1 b2 b3 A0 A1 c0 c1 ram io zs gs st w e w' :=
  ⟨h.1, h.2.1, Lib.hid (fun b t cs h1 h2 X => h.2.2.1.out b t cs h1 h2 (X.step hb)), (hb.mono hl).trans h.2.2.2⟩
set_option maxRecDepth 100000 in
set_option maxHeartbeats 1000000 in
theorem busWrite (k v : Nat) (hk : k < 4096) (hv : v < 256) (hr : ram.length = 256) (hi : io.length = 32) (hz : zs.length = 256) (hg : gs.length = 16) (hs : 0 ≤ st ∧ st ≤ 8) (hzs : ∀ z ∈ zs, 0 ≤ z ∧ z ≤ 255) (B : BusAt w lo g b0 b1 b2 b3 A0 A1 c0 c1 ram io zs gs st) :
    Calls Tryz.prog 111 #[.agg #[.pointer (some ⟨b0, 0, none⟩), .pointer (some ⟨b1, 0, none⟩), .pointer (some ⟨b2, 0, none⟩), .pointer (some ⟨b3, 0, none⟩)], .int .i64 k, .int .i64 v] w (Writes lo g b0 b1 b2 b3 A0 A1 c0 c1 (putR ram k v) (putI io k v) (putZ zs gs st k v) (putG gs st k) (putS st k v) w) := by
  have hb0 := alloc_below w (.cells #[.pointer (some ⟨b0, 0, none⟩), .pointer (some ⟨b1, 0, none⟩), .pointer (some ⟨b2, 0, none⟩), .pointer (some ⟨b3, 0, none⟩)] 57)
  have HRe := Lib.hid (fun W => regionOf (k : Int) W (by omega) (by omega))
  have HB := Lib.hid B
  have HQ : Hid (lo ≤ w.heap.size) := Lib.hid (Nat.le_of_lt (Nat.lt_of_le_of_lt B.l.1 B.r.lt))
  have HLs := Lib.hid (And.intro hr (And.intro hi (And.intro hz (And.intro hg (And.intro hs hzs)))))
  clear hr hi hz hg hs hzs B
  rcases reg_ways k hk with ⟨h1, e1, e2⟩ | ⟨h1, h2, e1, e2⟩ | ⟨h1, h2, e1, e2⟩ | ⟨h1, h2, e1, e2⟩
  · rw [show putR ram k v = ram.set k v from by unfold putR; rw [if_pos e1, e2]; rfl, show putI io k v = io from by unfold putI; rw [if_neg (by rw [e1]; omega)], show putZ zs gs st k v = zs from by unfold putZ; rw [if_neg (by rw [e1]; omega)], show putG gs st k = gs from by unfold putG; rw [if_neg (by rw [e1]; omega)], show putS st k v = st from by unfold putS; rw [if_neg (by rw [e1]; omega)]]
    rw [e1, e2] at HRe
    clear e1 e2
    go_enter Tryz.func111, Tryz.ntmps111
    go_wp2_with fail
    refine (HRe.out _).mono ?_
    rintro e w1 ⟨rfl, rfl⟩
    go_wp2_with fail
    refine (busDevice1 _ _ _ _ _).mono ?_
    rintro e w2 ⟨rfl, hb2⟩
    have hb := bt hb0 hb2
    have HM := Lib.hid (workWrite lo g b0 b1 b2 b3 A0 A1 c0 c1 ram io zs gs st w2 k v h1 HLs.out.1 (HB.out.step hb))
    go_wp2_with fail
    refine HM.out.mono ?_
    rintro e w3 ⟨rfl, N1, N2, N3⟩
    have HF := Lib.hid (Writes.after hb HQ.out ⟨rfl, N1, N2, N3⟩)
    clear N1 N2 N3
    go_wp2
    go_end0
    exact HF.out
  · obtain ⟨j, hj⟩ : ∃ j, k - 256 = j := ⟨_, rfl⟩
    rw [hj] at e2
    have hj32 : j < 32 := by omega
    by_cases hj0 : 0 < j
    · rw [show putR ram k v = ram from by unfold putR; rw [if_neg (by rw [e1]; omega)], show putI io k v = io.set j v from by unfold putI; rw [if_pos ⟨e1, by rw [e2]; omega⟩, e2]; rfl, show putZ zs gs st k v = zs from by unfold putZ; rw [if_neg (by rw [e1]; omega)], show putG gs st k = gs from by unfold putG; rw [if_neg (by rw [e1]; omega)], show putS st k v = st from by unfold putS; rw [if_neg (by rw [e1]; omega)]]
      rw [e1, e2] at HRe
      clear e1 e2 hj
      go_enter Tryz.func111, Tryz.ntmps111
      go_wp2_with fail
      refine (HRe.out _).mono ?_
      rintro e w1 ⟨rfl, rfl⟩
      go_wp2_with fail
      refine (busDevice2 _ _ _ _ _).mono ?_
      rintro e w2 ⟨rfl, hb2⟩
      have hb := bt hb0 hb2
      have HM := Lib.hid (regsWrite lo g b0 b1 b2 b3 A0 A1 c0 c1 ram io zs gs st w2 j v hj32 hj0 HLs.out.2.1 (HB.out.step hb))
      go_wp2_with fail
      refine HM.out.mono ?_
      rintro e w3 ⟨rfl, N1, N2, N3⟩
      have HF := Lib.hid (Writes.after hb HQ.out ⟨rfl, N1, N2, N3⟩)
      clear N1 N2 N3
      go_wp2
      go_end0
      exact HF.out
    · obtain rfl : j = 0 := by omega
      rw [show putR ram k v = ram from by unfold putR; rw [if_neg (by rw [e1]; omega)], show putI io k v = io from by unfold putI; rw [if_neg (by rw [e2]; omega)], show putZ zs gs st k v = zs from by unfold putZ; rw [if_neg (by rw [e1]; omega)], show putG gs st k = gs from by unfold putG; rw [if_neg (by rw [e1]; omega)], show putS st k v = st from by unfold putS; rw [if_neg (by rw [e1]; omega)]]
      rw [e1, e2] at HRe
      clear e1 e2 hj hj0
      go_enter Tryz.func111, Tryz.ntmps111
      go_wp2_with fail
      refine (HRe.out _).mono ?_
      rintro e w1 ⟨rfl, rfl⟩
      go_wp2_with fail
      refine (busDevice2 _ _ _ _ _).mono ?_
      rintro e w2 ⟨rfl, hb2⟩
      have hb := bt hb0 hb2
      have HM := Lib.hid (regsWrite0 lo g b0 b1 b2 b3 A0 A1 c0 c1 ram io zs gs st w2 v (HB.out.step hb))
      go_wp2_with fail
      refine HM.out.mono ?_
      rintro e w3 ⟨rfl, N1, N2, N3⟩
      have HF := Lib.hid (Writes.after hb HQ.out ⟨rfl, N1, N2, N3⟩)
      clear N1 N2 N3
      go_wp2
      go_end0
      exact HF.out
  · obtain ⟨j, hj⟩ : ∃ j, k - 512 = j := ⟨_, rfl⟩
    rw [hj] at e2
    have hj32 : j < 256 := by omega
    rw [show putR ram k v = ram from by unfold putR; rw [if_neg (by rw [e1]; omega)], show putI io k v = io from by unfold putI; rw [if_neg (by rw [e1]; omega)], show putZ zs gs st k v = cycZ zs gs st j v from by unfold putZ; rw [if_pos e1, e2]; rfl, show putG gs st k = cycG gs st j from by unfold putG; rw [if_pos e1, e2]; rfl, show putS st k v = nextS st j v from by unfold putS; rw [if_pos e1, e2]]
    rw [e1, e2] at HRe
    clear e1 e2 hj
    go_enter Tryz.func111, Tryz.ntmps111
    go_wp2_with fail
    refine (HRe.out _).mono ?_
    rintro e w1 ⟨rfl, rfl⟩
    go_wp2_with fail
    refine (busDevice3 _ _ _ _ _).mono ?_
    rintro e w2 ⟨rfl, hb2⟩
    have hb := bt hb0 hb2
    have HM := Lib.hid (cartWrite lo g b0 b1 b2 b3 A0 A1 c0 c1 ram io zs gs st w2 j v HLs.out.2.2.1 HLs.out.2.2.2.1 HLs.out.2.2.2.2.1 hj32 hv HLs.out.2.2.2.2.2 (HB.out.step hb))
    go_wp2_with fail
    refine HM.out.mono ?_
    rintro e w3 ⟨rfl, N1, N2, N3⟩
    have HF := Lib.hid (Writes.after hb HQ.out ⟨rfl, N1, N2, N3⟩)
    clear N1 N2 N3
    go_wp2
    go_end0
    exact HF.out
  · rw [show putR ram k v = ram from by unfold putR; rw [if_neg (by rw [e1]; omega)], show putI io k v = io from by unfold putI; rw [if_neg (by rw [e1]; omega)], show putZ zs gs st k v = zs from by unfold putZ; rw [if_neg (by rw [e1]; omega)], show putG gs st k = gs from by unfold putG; rw [if_neg (by rw [e1]; omega)], show putS st k v = st from by unfold putS; rw [if_neg (by rw [e1]; omega)]]
    rw [e1, e2] at HRe
    clear e1 e2
    go_enter Tryz.func111, Tryz.ntmps111
    go_wp2_with fail
    refine (HRe.out _).mono ?_
    rintro e w1 ⟨rfl, rfl⟩
    go_wp2_with fail
    refine (busDevice0 _ _ _ _ _).mono ?_
    rintro e w2 ⟨rfl, hb2⟩
    have hb := bt hb0 hb2
    go_wp2_with fail
    refine (openWrite _ _ _ _).mono ?_
    rintro e w3 ⟨rfl, rfl⟩
    have HF : Hid (Writes lo g b0 b1 b2 b3 A0 A1 c0 c1 ram io zs gs st w (.returned (.tuple #[])) w2) := Lib.hid ⟨rfl, Lib.hid (HB.out.step hb), Lib.hid (fun _ _ _ _ _ X => X.step hb), hb.mono HQ.out⟩
    go_wp2
    go_end0
    exact HF.out
end
end Go.Proofs.YtcchhbkbnbphhaaGreatDoor

/- impl.MemOK, impl.BusGet, impl.BusPut on leaves. -/
namespace Go.Proofs.YtcchhbkbnbphhaaGreatDoor
open Go.RowKit

theorem ownA4 {w : World} {lo g h hi L R : Nat} {A0 A1 A2 A3 : Option Addr} {c0 c1 c2 c3 : Nat} {d0 d1 d2 : List Int} {d3 : List Bool} (a : OwnI w lo g A0 d0) (b : OwnI w g h A1 d1) (c : OwnI w h hi A2 d2) (d : OwnB w h hi A3 d3) (q0 : L ≤ lo) (q1 : lo ≤ g) (q2 : g ≤ h) (q3 : h ≤ hi) (q4 : hi ≤ R) :
    OwnA w L R [.slice A0 d0.length c0, .slice A1 d1.length c1, .slice A2 d2.length c2, .slice A3 d3.length c3] [.I d0, .I d1, .I d2, .B d3] :=
  OwnA.append (lo := L) (hi := h) (L := L) (R := R) (OwnA.append (lo := lo) (hi := g) (lo' := g) (hi' := h) (L := L) (R := h) (OwnA.one (d := .I d0) ⟨A0, c0, rfl, a⟩) (OwnA.one (d := .I d1) ⟨A1, c1, rfl, b⟩) (.inl (Nat.le_refl _)) q0 (by omega) q2 (Nat.le_refl _)) (ownIB c d) (.inl (Nat.le_refl _)) (Nat.le_refl _) (by omega) (by omega) q4
theorem ownA4_nil (w : World) (L R : Nat) (hq : L ≤ R) : OwnA w L R [.slice none 0 0, .slice none 0 0, .slice none 0 0, .slice none 0 0] [.I [], .I [], .I [], .B []] :=
  ownA4 (lo := L) (g := L) (h := L) (hi := L) (d0 := []) (d1 := []) (d2 := []) (d3 := []) (.inl rfl) (.inl rfl) (.inl rfl) (.inl rfl) (Nat.le_refl _) (Nat.le_refl _) (Nat.le_refl _) (Nat.le_refl _) hq

section
variable (A0 A1 A2 A3 : Option Addr) (n0 n1 n2 n3 c0 c1 c2 c3 : Nat) (d0 d1 d2 : List Int) (d3 : List Bool) (d4 : Int) (w : World)
theorem OwnI.far5 {w : World} {lo hi : Nat} {A : Option Addr} {zs : List Int} (h : OwnI w lo hi A zs) {b : Nat} {cs : Array Value} (X : Box w b 31 cs) (u0 u1 u2 u3 u4 : Value) : OwnI (((((w.setCell ⟨b, 0, none⟩ u0).setCell ⟨b, 1, none⟩ u1).setCell ⟨b, 2, none⟩ u2).setCell ⟨b, 3, none⟩ u3).setCell ⟨b, 4, none⟩ u4) lo hi A zs :=
  ((((h.farB X (by decide) 0 u0).farB (X.set 0 u0) (by decide) 1 u1).farB ((X.set 0 u0).set 1 u1) (by decide) 2 u2).farB (((X.set 0 u0).set 1 u1).set 2 u2) (by decide) 3 u3).farB ((((X.set 0 u0).set 1 u1).set 2 u2).set 3 u3) (by decide) 4 u4
theorem OwnB.far5 {w : World} {lo hi : Nat} {A : Option Addr} {gs : List Bool} (h : OwnB w lo hi A gs) {b : Nat} {cs : Array Value} (X : Box w b 31 cs) (u0 u1 u2 u3 u4 : Value) : OwnB (((((w.setCell ⟨b, 0, none⟩ u0).setCell ⟨b, 1, none⟩ u1).setCell ⟨b, 2, none⟩ u2).setCell ⟨b, 3, none⟩ u3).setCell ⟨b, 4, none⟩ u4) lo hi A gs :=
  ((((h.far X (by decide) 0 u0).far (X.set 0 u0) (by decide) 1 u1).far ((X.set 0 u0).set 1 u1) (by decide) 2 u2).far (((X.set 0 u0).set 1 u1).set 2 u2) (by decide) 3 u3).far ((((X.set 0 u0).set 1 u1).set 2 u2).set 3 u3) (by decide) 4 u4
theorem below5 {w0 w : World} {b : Nat} (h : Below w0.heap.size w0 w) (hb : w0.heap.size ≤ b) (u0 u1 u2 u3 u4 : Value) : Below w0.heap.size w0 (((((w.setCell ⟨b, 0, none⟩ u0).setCell ⟨b, 1, none⟩ u1).setCell ⟨b, 2, none⟩ u2).setCell ⟨b, 3, none⟩ u3).setCell ⟨b, 4, none⟩ u4) :=
  ((((h.setCell (p := ⟨b, 0, none⟩) hb u0).setCell (p := ⟨b, 1, none⟩) hb u1).setCell (p := ⟨b, 2, none⟩) hb u2).setCell (p := ⟨b, 3, none⟩) hb u3).setCell (p := ⟨b, 4, none⟩) hb u4
theorem size5 (w : World) (b : Nat) (u0 u1 u2 u3 u4 : Value) : (((((w.setCell ⟨b, 0, none⟩ u0).setCell ⟨b, 1, none⟩ u1).setCell ⟨b, 2, none⟩ u2).setCell ⟨b, 3, none⟩ u3).setCell ⟨b, 4, none⟩ u4).heap.size = w.heap.size := by simp [World.setCell]

end
end Go.Proofs.YtcchhbkbnbphhaaGreatDoor

/- The processor that executes: a box with the fields, the bus and the swi; what its methods leave. -/
namespace Go.Proofs.YtcchhbkbnbphhaaGreatDoor
open Go.RowKit

structure PA where
  L : Nat
  R : Nat
  p : Nat
  g : Nat
  b0 : Nat
  b1 : Nat
  b2 : Nat
  b3 : Nat
  A : Option Addr
  A0 : Option Addr
  A1 : Option Addr
  c : Nat
  c0 : Nat
  c1 : Nat
def procC (a : PA) (d : CD) (s : Int) : Array Value := #[.int .i64 d.pc, .int .i64 d.sp, .int .i64 d.bank, .int .i64 d.level, .bool d.zero, .bool d.carry, .bool d.on, .bool d.halt, .slice a.A 16 a.c, .pointer (some ⟨a.b0, 0, none⟩), .pointer (some ⟨a.b1, 0, none⟩), .pointer (some ⟨a.b2, 0, none⟩), .pointer (some ⟨a.b3, 0, none⟩), .int .i64 s]
structure PrAt (w : World) (a : PA) (d : CD) (m : MD) (s : Int) : Prop where
  X : Box w a.p 59 (procC a d s)
  G : OwnI w a.L a.R a.A d.regs
  B : BusAt w a.R a.g a.b0 a.b1 a.b2 a.b3 a.A0 a.A1 a.c0 a.c1 m.r m.i m.z m.g m.s
  q : a.L ≤ a.R ∧ a.L ≤ a.p
theorem PrAt.step {w w' : World} {a : PA} {d : CD} {m : MD} {s : Int} (h : PrAt w a d m s) (k : Below w.heap.size w w') : PrAt w' a d m s := ⟨h.X.step k, h.G.below k, h.B.step k, h.q⟩
theorem PrAt.size {w : World} {a : PA} {d : CD} {m : MD} {s : Int} (h : PrAt w a d m s) : a.L ≤ w.heap.size := by
  have := h.X.lt
  have := h.q.2
  omega
theorem PrAt.cells {w : World} {a : PA} {d : CD} {m : MD} {s : Int} (h : PrAt w a d m s) :
    (w.cell? ⟨a.p, 0, none⟩ = some (.int .i64 d.pc) ∧ w.cell? ⟨a.p, 1, none⟩ = some (.int .i64 d.sp) ∧ w.cell? ⟨a.p, 2, none⟩ = some (.int .i64 d.bank) ∧ w.cell? ⟨a.p, 3, none⟩ = some (.int .i64 d.level) ∧ w.cell? ⟨a.p, 4, none⟩ = some (.bool d.zero) ∧ w.cell? ⟨a.p, 5, none⟩ = some (.bool d.carry) ∧ w.cell? ⟨a.p, 6, none⟩ = some (.bool d.on) ∧ w.cell? ⟨a.p, 7, none⟩ = some (.bool d.halt) ∧ w.cell? ⟨a.p, 8, none⟩ = some (.slice a.A 16 a.c)) ∧
    (w.cell? ⟨a.p, 9, none⟩ = some (.pointer (some ⟨a.b0, 0, none⟩)) ∧ w.cell? ⟨a.p, 10, none⟩ = some (.pointer (some ⟨a.b1, 0, none⟩)) ∧ w.cell? ⟨a.p, 11, none⟩ = some (.pointer (some ⟨a.b2, 0, none⟩)) ∧ w.cell? ⟨a.p, 12, none⟩ = some (.pointer (some ⟨a.b3, 0, none⟩)) ∧ w.cell? ⟨a.p, 13, none⟩ = some (.int .i64 s)) ∧ ∀ i, w.frozen? ⟨a.p, i, none⟩ = false :=
  ⟨⟨h.X.cell 0 rfl, h.X.cell 1 rfl, h.X.cell 2 rfl, h.X.cell 3 rfl, h.X.cell 4 rfl, h.X.cell 5 rfl, h.X.cell 6 rfl, h.X.cell 7 rfl, h.X.cell 8 rfl⟩, ⟨h.X.cell 9 rfl, h.X.cell 10 rfl, h.X.cell 11 rfl, h.X.cell 12 rfl, h.X.cell 13 rfl⟩, h.X.frozen⟩
theorem BusAt.setFar {w : World} {lo g b0 b1 b2 b3 : Nat} {A0 A1 : Option Addr} {c0 c1 : Nat} {ram io zs : List Int} {gs : List Bool} {st : Int} (B : BusAt w lo g b0 b1 b2 b3 A0 A1 c0 c1 ram io zs gs st) {b : Nat} {t : TypeId} {cs : Array Value} (X : Box w b t cs) (ht : t ≠ 3) (h0 : t ≠ 89) (h1 : t ≠ 90) (h2 : t ≠ 96) (h3 : t ≠ 114) (i : Nat) (u : Value) : BusAt (w.setCell ⟨b, i, none⟩ u) lo g b0 b1 b2 b3 A0 A1 c0 c1 ram io zs gs st :=
  ⟨B.r.far (p := ⟨b, i, none⟩) (B.r.box_ne X (Ne.symm h0)) u, B.i.far (p := ⟨b, i, none⟩) (B.i.box_ne X (Ne.symm h1)) u, B.f.far (p := ⟨b, i, none⟩) (B.f.box_ne X (Ne.symm h2)) u, B.o.far (p := ⟨b, i, none⟩) (B.o.box_ne X (Ne.symm h3)) u, B.R.farB X ht i u, (B.I.farB X ht i u).wideB (Nat.le_refl _) (by simp [World.setCell]), by simpa [World.setCell] using B.l⟩
theorem PrAt.put {w : World} {a : PA} {d : CD} {m : MD} {s : Int} (h : PrAt w a d m s) (i : Nat) (u : Value) (d' : CD) (s' : Int) (hc : (procC a d s).setIfInBounds i u = procC a d' s') (hr : d'.regs = d.regs) : PrAt (w.setCell ⟨a.p, i, none⟩ u) a d' m s' :=
  ⟨hc ▸ h.X.set i u, hr ▸ h.G.farB h.X (by decide) i u, h.B.setFar h.X (by decide) (by decide) (by decide) (by decide) (by decide) i u, h.q⟩
def KeepsBox (w w' : World) : Prop := ∀ b t cs, t ≠ 3 → t ≠ 96 → t ≠ 59 → Box w b t cs → Box w' b t cs
theorem KeepsBox.refl (w : World) : KeepsBox w w := fun _ _ _ _ _ _ h => h
theorem KeepsBox.trans {a b c : World} (h : KeepsBox a b) (k : KeepsBox b c) : KeepsBox a c := fun x t cs h1 h2 h3 X => k x t cs h1 h2 h3 (h x t cs h1 h2 h3 X)
theorem KeepsBox.below {w w' : World} (k : Below w.heap.size w w') : KeepsBox w w' := fun _ _ _ _ _ _ X => X.step k
theorem KeepsBox.set {w : World} {b : Nat} {cs : Array Value} (X : Box w b 59 cs) (i : Nat) (u : Value) : KeepsBox w (w.setCell ⟨b, i, none⟩ u) := fun _ _ _ _ _ h3 Y => Y.far (p := ⟨b, i, none⟩) (Y.box_ne X h3) u
theorem KeepsBox.row {w : World} {b m : Nat} {f : Nat → Value} (X : w.rowIs b 3 m f) (i : Nat) (u : Value) : KeepsBox w (w.setCell ⟨b, i, none⟩ u) := fun _ _ _ h1 _ _ Y => Y.other X h1 i u
structure Runs (L : Nat) (w w' : World) : Prop where
  kb : KeepsBox w w'
  bl : Below L w w'
theorem Runs.trans {L : Nat} {a b c : World} (h : Runs L a b) (k : Runs L b c) : Runs L a c := ⟨h.kb.trans k.kb, h.bl.trans k.bl⟩
theorem Runs.below {L : Nat} {w w' : World} (k : Below w.heap.size w w') (hl : L ≤ w.heap.size) : Runs L w w' := ⟨KeepsBox.below k, k.mono hl⟩
theorem PrAt.runs {w : World} {a : PA} {d : CD} {m : MD} {s : Int} (h : PrAt w a d m s) {L : Nat} (hl : L ≤ a.L) (i : Nat) (u : Value) : Runs L w (w.setCell ⟨a.p, i, none⟩ u) := ⟨KeepsBox.set h.X i u, (Below.refl _ _).setCell (p := ⟨a.p, i, none⟩) (Nat.le_trans hl h.q.2) u⟩
def GPr (a : PA) (d : CD) (m : MD) (s : Int) (w : World) (e : Ending) (w' : World) : Prop := e = .returned (.tuple #[]) ∧ Hid (PrAt w' a d m s) ∧ Hid (Runs a.L w w')
def GPrI (v : Int) (a : PA) (d : CD) (m : MD) (s : Int) (w : World) (e : Ending) (w' : World) : Prop := e = .returned (.int .i64 v) ∧ Hid (PrAt w' a d m s) ∧ Hid (Runs a.L w w')
end Go.Proofs.YtcchhbkbnbphhaaGreatDoor
