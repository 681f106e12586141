/- impl.bus.read, impl.bus.write, impl.Mem.check, impl.BusGet, impl.BusPut, impl.MemOK. -/
import Derived.Test.YtieljgoodmoacaaBusMem
namespace Go.Proofs.Ytieljgoodmoacaa
open Go.RowKit

section
variable (lo g b0 b1 b2 b3 : Nat) (A0 A1 : Option Addr) (c0 c1 : Nat) (ram io zs : List Int) (gs : List Bool) (st : Int) (w : World)
theorem Writes.after {lo g b0 b1 b2 b3 : Nat} {A0 A1 : Option Addr} {c0 c1 : Nat} {ram io zs : List Int} {gs : List Bool} {st : Int} {w w1 : World} {e : Ending} {w' : World} (hb : Below w.heap.size w w1) (hl : lo ≤ w.heap.size) (h : Writes lo g b0 b1 b2 b3 A0 A1 c0 c1 ram io zs gs st w1 e w') : Writes lo g b0 b1 b2 b3 A0 A1 c0 c1 ram io zs gs st w e w' :=
  ⟨h.1, h.2.1, Lib.hid (fun b t cs h1 h2 X => h.2.2.1.out b t cs h1 h2 (X.step hb)), (hb.mono hl).trans h.2.2.2⟩
set_option maxRecDepth 100000 in
set_option maxHeartbeats 1000000 in
theorem busWrite (k v : Nat) (hk : k < 4096) (hv : v < 256) (hr : ram.length = 256) (hi : io.length = 32) (hz : zs.length = 256) (hg : gs.length = 16) (hs : 0 ≤ st ∧ st ≤ 8) (hzs : ∀ z ∈ zs, 0 ≤ z ∧ z ≤ 255) (B : BusAt w lo g b0 b1 b2 b3 A0 A1 c0 c1 ram io zs gs st) :
    Calls Try.prog 80 #[.agg #[.pointer (some ⟨b0, 0, none⟩), .pointer (some ⟨b1, 0, none⟩), .pointer (some ⟨b2, 0, none⟩), .pointer (some ⟨b3, 0, none⟩)], .int .i64 k, .int .i64 v] w (Writes lo g b0 b1 b2 b3 A0 A1 c0 c1 (putR ram k v) (putI io k v) (putZ zs gs st k v) (putG gs st k) (putS st k v) w) := by
  have hb0 := alloc_below w (.cells #[.pointer (some ⟨b0, 0, none⟩), .pointer (some ⟨b1, 0, none⟩), .pointer (some ⟨b2, 0, none⟩), .pointer (some ⟨b3, 0, none⟩)] 76)
  have HRe := Lib.hid (fun W => regionOf (k : Int) W (by omega) (by omega))
  have HB := Lib.hid B
  have HQ : Hid (lo ≤ w.heap.size) := Lib.hid (Nat.le_of_lt (Nat.lt_of_le_of_lt B.l.1 B.r.lt))
  have HLs := Lib.hid (And.intro hr (And.intro hi (And.intro hz (And.intro hg (And.intro hs hzs)))))
  clear hr hi hz hg hs hzs B
  rcases reg_ways k hk with ⟨h1, e1, e2⟩ | ⟨h1, h2, e1, e2⟩ | ⟨h1, h2, e1, e2⟩ | ⟨h1, h2, e1, e2⟩
  · rw [show putR ram k v = ram.set k v from by unfold putR; rw [if_pos e1, e2]; rfl, show putI io k v = io from by unfold putI; rw [if_neg (by rw [e1]; omega)], show putZ zs gs st k v = zs from by unfold putZ; rw [if_neg (by rw [e1]; omega)], show putG gs st k = gs from by unfold putG; rw [if_neg (by rw [e1]; omega)], show putS st k v = st from by unfold putS; rw [if_neg (by rw [e1]; omega)]]
    rw [e1, e2] at HRe
    clear e1 e2
    go_enter Try.func80, Try.ntmps80
    go_wp2_with fail
    refine (HRe.out _).mono ?_
    rintro e w1 ⟨rfl, rfl⟩
    go_wp2_with fail
    refine (busDevice1 _ _ _ _ _).mono ?_
    rintro e w2 ⟨rfl, hb2⟩
    have hb := bt hb0 hb2
    have HM := Lib.hid (workWrite lo g b0 b1 b2 b3 A0 A1 c0 c1 ram io zs gs st w2 k v h1 HLs.out.1 (HB.out.step hb))
    go_wp2_with fail
    refine HM.out.mono ?_
    rintro e w3 ⟨rfl, N1, N2, N3⟩
    have HF := Lib.hid (Writes.after hb HQ.out ⟨rfl, N1, N2, N3⟩)
    clear N1 N2 N3
    go_wp2
    go_end0
    exact HF.out
  · obtain ⟨j, hj⟩ : ∃ j, k - 256 = j := ⟨_, rfl⟩
    rw [hj] at e2
    have hj32 : j < 32 := by omega
    by_cases hj0 : 0 < j
    · rw [show putR ram k v = ram from by unfold putR; rw [if_neg (by rw [e1]; omega)], show putI io k v = io.set j v from by unfold putI; rw [if_pos ⟨e1, by rw [e2]; omega⟩, e2]; rfl, show putZ zs gs st k v = zs from by unfold putZ; rw [if_neg (by rw [e1]; omega)], show putG gs st k = gs from by unfold putG; rw [if_neg (by rw [e1]; omega)], show putS st k v = st from by unfold putS; rw [if_neg (by rw [e1]; omega)]]
      rw [e1, e2] at HRe
      clear e1 e2 hj
      go_enter Try.func80, Try.ntmps80
      go_wp2_with fail
      refine (HRe.out _).mono ?_
      rintro e w1 ⟨rfl, rfl⟩
      go_wp2_with fail
      refine (busDevice2 _ _ _ _ _).mono ?_
      rintro e w2 ⟨rfl, hb2⟩
      have hb := bt hb0 hb2
      have HM := Lib.hid (regsWrite lo g b0 b1 b2 b3 A0 A1 c0 c1 ram io zs gs st w2 j v hj32 hj0 HLs.out.2.1 (HB.out.step hb))
      go_wp2_with fail
      refine HM.out.mono ?_
      rintro e w3 ⟨rfl, N1, N2, N3⟩
      have HF := Lib.hid (Writes.after hb HQ.out ⟨rfl, N1, N2, N3⟩)
      clear N1 N2 N3
      go_wp2
      go_end0
      exact HF.out
    · obtain rfl : j = 0 := by omega
      rw [show putR ram k v = ram from by unfold putR; rw [if_neg (by rw [e1]; omega)], show putI io k v = io from by unfold putI; rw [if_neg (by rw [e2]; omega)], show putZ zs gs st k v = zs from by unfold putZ; rw [if_neg (by rw [e1]; omega)], show putG gs st k = gs from by unfold putG; rw [if_neg (by rw [e1]; omega)], show putS st k v = st from by unfold putS; rw [if_neg (by rw [e1]; omega)]]
      rw [e1, e2] at HRe
      clear e1 e2 hj hj0
      go_enter Try.func80, Try.ntmps80
      go_wp2_with fail
      refine (HRe.out _).mono ?_
      rintro e w1 ⟨rfl, rfl⟩
      go_wp2_with fail
      refine (busDevice2 _ _ _ _ _).mono ?_
      rintro e w2 ⟨rfl, hb2⟩
      have hb := bt hb0 hb2
      have HM := Lib.hid (regsWrite0 lo g b0 b1 b2 b3 A0 A1 c0 c1 ram io zs gs st w2 v (HB.out.step hb))
      go_wp2_with fail
      refine HM.out.mono ?_
      rintro e w3 ⟨rfl, N1, N2, N3⟩
      have HF := Lib.hid (Writes.after hb HQ.out ⟨rfl, N1, N2, N3⟩)
      clear N1 N2 N3
      go_wp2
      go_end0
      exact HF.out
  · obtain ⟨j, hj⟩ : ∃ j, k - 512 = j := ⟨_, rfl⟩
    rw [hj] at e2
    have hj32 : j < 256 := by omega
    rw [show putR ram k v = ram from by unfold putR; rw [if_neg (by rw [e1]; omega)], show putI io k v = io from by unfold putI; rw [if_neg (by rw [e1]; omega)], show putZ zs gs st k v = cycZ zs gs st j v from by unfold putZ; rw [if_pos e1, e2]; rfl, show putG gs st k = cycG gs st j from by unfold putG; rw [if_pos e1, e2]; rfl, show putS st k v = nextS st j v from by unfold putS; rw [if_pos e1, e2]]
    rw [e1, e2] at HRe
    clear e1 e2 hj
    go_enter Try.func80, Try.ntmps80
    go_wp2_with fail
    refine (HRe.out _).mono ?_
    rintro e w1 ⟨rfl, rfl⟩
    go_wp2_with fail
    refine (busDevice3 _ _ _ _ _).mono ?_
    rintro e w2 ⟨rfl, hb2⟩
    have hb := bt hb0 hb2
    have HM := Lib.hid (cartWrite lo g b0 b1 b2 b3 A0 A1 c0 c1 ram io zs gs st w2 j v HLs.out.2.2.1 HLs.out.2.2.2.1 HLs.out.2.2.2.2.1 hj32 hv HLs.out.2.2.2.2.2 (HB.out.step hb))
    go_wp2_with fail
    refine HM.out.mono ?_
    rintro e w3 ⟨rfl, N1, N2, N3⟩
    have HF := Lib.hid (Writes.after hb HQ.out ⟨rfl, N1, N2, N3⟩)
    clear N1 N2 N3
    go_wp2
    go_end0
    exact HF.out
  · rw [show putR ram k v = ram from by unfold putR; rw [if_neg (by rw [e1]; omega)], show putI io k v = io from by unfold putI; rw [if_neg (by rw [e1]; omega)], show putZ zs gs st k v = zs from by unfold putZ; rw [if_neg (by rw [e1]; omega)], show putG gs st k = gs from by unfold putG; rw [if_neg (by rw [e1]; omega)], show putS st k v = st from by unfold putS; rw [if_neg (by rw [e1]; omega)]]
    rw [e1, e2] at HRe
    clear e1 e2
    go_enter Try.func80, Try.ntmps80
    go_wp2_with fail
    refine (HRe.out _).mono ?_
    rintro e w1 ⟨rfl, rfl⟩
    go_wp2_with fail
    refine (busDevice0 _ _ _ _ _).mono ?_
    rintro e w2 ⟨rfl, hb2⟩
    have hb := bt hb0 hb2
    go_wp2_with fail
    refine (openWrite _ _ _ _).mono ?_
    rintro e w3 ⟨rfl, rfl⟩
    have HF : Hid (Writes lo g b0 b1 b2 b3 A0 A1 c0 c1 ram io zs gs st w (.returned (.tuple #[])) w2) := Lib.hid ⟨rfl, Lib.hid (HB.out.step hb), Lib.hid (fun _ _ _ _ _ X => X.step hb), hb.mono HQ.out⟩
    go_wp2
    go_end0
    exact HF.out
end
end Go.Proofs.Ytieljgoodmoacaa
