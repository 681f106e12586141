/- Contracts of Flash.identify, l01Bit, l03Read and both BusRead. -/
import Derived.Test.YtdanefhfngmipaaFlashBits
import Derived.Deep.RegionHeld3
namespace Go.Proofs.Ytdanefhfngmipaa
open Go.RowKit

def readV (zs : List Int) (gs : List Bool) (st : Int) (n : Nat) : Int :=
  if st = 7 then (if n % 4 = 0 then 32 else if n % 4 = 1 then 47 else if n % 4 = 2 then (if gs.getD (n / 16) false then 1 else 0) else 255) else zs.getD n 0
def readOf (zs : List Int) (gs : List Bool) (st a : Int) : Int × Int :=
  if okFlash zs gs st then (if byB a then (readV zs gs st a.toNat, 0) else (0, 4)) else (0, 1)

theorem quiet_same' {P : Program} {f : FuncId} {args : Array Value} {w : World} {n : Nat} {v : Value}
    (h : Calls P f args (w.drewN n) fun e w' => e = .returned v ∧ w.drewN n = w') : Calls P f args (w.drewN n) fun e w' => e = .returned v ∧ ∃ m, w' = w.drewN m :=
  h.mono fun _ _ ⟨he, hw⟩ => ⟨he, n, hw.symm⟩

set_option maxRecDepth 100000 in
theorem l01Bit (q : Bool) (w : World) : Calls Try.prog 91 #[.bool q] w fun e w' => e = .returned (.int .i64 (if q then 1 else 0)) ∧ w = w' := by
  cases q <;> (go_enter Try.func91, Try.ntmps91; go_wp2; go_ret; exact ⟨rfl, rfl⟩)

set_option maxRecDepth 100000 in
theorem l03Read (A C : Option Addr) (n c d k : Nat) (st : Int) (zs : List Int) (gs : List Bool) (w : World) (hl : zs.length = n) (hn : n = 256) (hm : gs.length = 16) (hk : k ≤ 255) (h : IntL w A zs) (g : BoolL w C gs) :
    Calls Try.prog 61 #[.agg #[.slice A n c, .slice C 16 d, .int .i64 st], .int .i64 k] w fun e w' => e = .returned (.int .i64 (readV zs gs st k)) ∧ Below w.heap.size w w' := by
  have hb0 := alloc_below w (.cells #[.slice A n c, .slice C 16 d, .int .i64 st] 26)
  have hdiv : k / 16 < 16 := by omega
  have hki : (k : Int) < (n : Int) := by omega
  by_cases h7 : st = 7
  · subst h7
    obtain ⟨b, off, rfl, hc⟩ := (g.below hb0) (k / 16) (by omega)
    have HR : Hid (∀ q, q = gs.getD (k / 16) false → readV zs gs 7 k = if k % 4 = 0 then 32 else if k % 4 = 1 then 47 else if k % 4 = 2 then (if q then 1 else 0) else 255) := Lib.hid (by intro q hq; subst hq; unfold readV; rw [if_pos rfl])
    generalize readV zs gs 7 k = r at HR
    have HR2 := Lib.hid (HR.out _ rfl)
    generalize gs.getD (k / 16) false = q at hc HR2
    have h4 : k % 4 = 0 ∨ k % 4 = 1 ∨ k % 4 = 2 ∨ k % 4 = 3 := by omega
    have ha := and_3 k (by omega)
    have hdi : ((k / 16 : Nat) : Int) < 16 := by omega
    clear hm g HR hl hn h
    rcases h4 with h4 | h4 | h4 | h4
    · have e : r = 32 := by rw [HR2.out, if_pos h4]
      rw [h4] at ha
      clear HR2 h4
      subst e
      go_enter Try.func61, Try.ntmps61
      go_wp2
      go_ret
      exact ⟨rfl, hb0⟩
    · have e : r = 47 := by rw [HR2.out, if_neg (by omega), if_pos h4]
      rw [h4] at ha
      clear HR2 h4
      subst e
      go_enter Try.func61, Try.ntmps61
      go_wp2
      go_ret
      exact ⟨rfl, hb0⟩
    · have e : r = if q then 1 else 0 := by rw [HR2.out, if_neg (by omega), if_neg (by omega), if_pos h4]
      rw [h4] at ha
      have HE := Lib.hid e
      clear HR2 h4 e
      cases q <;> (
        go_enter Try.func61, Try.ntmps61
        go_wp2_with (first | (go_at_call 91; refine (l01Bit _ _).mono ?_; rintro e w' ⟨rfl, rfl⟩))
        go_ret
        exact ⟨ret_int HE.out.symm, hb0⟩)
    · have e : r = 255 := by rw [HR2.out, if_neg (by omega), if_neg (by omega), if_neg (by omega)]
      rw [h4] at ha
      clear HR2 h4
      subst e
      go_enter Try.func61, Try.ntmps61
      go_wp2
      go_ret
      exact ⟨rfl, hb0⟩
  · have hq7 : (st != 7) = true := by simp [h7]
    obtain ⟨b, off, rfl, hc⟩ := (h.below hb0) k (by omega)
    have HE : Hid (readV zs gs st k = zs.getD k 0) := Lib.hid (by unfold readV; rw [if_neg h7])
    generalize readV zs gs st k = r at HE
    generalize zs.getD k 0 = z at hc HE
    clear hm g hl hn h h7
    go_enter Try.func61, Try.ntmps61
    go_wp2
    go_ret
    exact ⟨ret_int HE.out.symm, hb0⟩

theorem readOf_bad (zs : List Int) (gs : List Bool) (st a : Int) (h : okFlash zs gs st = false) : readOf zs gs st a = (0, 1) := by unfold readOf; simp [h]
theorem readOf_range (zs : List Int) (gs : List Bool) (st a : Int) (h : okFlash zs gs st = true) (h2 : byB a = false) : readOf zs gs st a = (0, 4) := by unfold readOf; simp [h, h2]
theorem readOf_ok (zs : List Int) (gs : List Bool) (st : Int) (k : Nat) (h : okFlash zs gs st = true) (h2 : byB k = true) : readOf zs gs st k = (readV zs gs st k, 0) := by unfold readOf; simp [h, h2]
theorem readV_7 (zs : List Int) (gs : List Bool) (k : Nat) : readV zs gs 7 k = readV [] gs 7 k := by unfold readV; rw [if_pos rfl, if_pos rfl]

set_option maxRecDepth 100000 in
set_option maxHeartbeats 1000000 in
theorem specBusRead (A C : Option Addr) (n c m d : Nat) (st : Int) (zs : List Int) (gs : List Bool) (a : Int) (w : World) (hl : zs.length = n) (hm : gs.length = m) (hn : n ≤ maxLen) (hmm : m ≤ maxLen) (h : IntL w A zs) (g : BoolL w C gs) :
    Calls Try.prog 23 #[.agg #[.slice A n c, .slice C m d, .int .i64 st], .int .i64 a] w fun e w' => e = .returned (.tuple #[.int .i64 (readOf zs gs st a).1, .int .i64 (readOf zs gs st a).2]) ∧ Below w.heap.size w w' := by
  have hb0 := alloc_below w (.cells #[.slice A n c, .slice C m d, .int .i64 st] 26)
  have X0 := Lib.hid (Box.new w 26 #[.slice A n c, .slice C m d, .int .i64 st])
  have HC := Lib.hid (fun W (hb : Below w.heap.size w W) => l03Ask A C n c m d st (byB a) zs gs W hl hm hn hmm (h.below hb))
  have H := Lib.hid (And.intro hl (And.intro hm (And.intro h g)))
  clear hl hm hn hmm h g
  obtain ⟨W0, hW0⟩ : ∃ W0, W0 = w.alloc (.cells #[.slice A n c, .slice C m d, .int .i64 st] 26) := ⟨_, rfl⟩
  have HRd : Hid (readOf zs gs st a = if codeIf (okFlash zs gs st) (byB a) = 0 then (readV zs gs st a.toNat, 0) else (0, codeIf (okFlash zs gs st) (byB a))) := Lib.hid (by unfold readOf codeIf; cases okFlash zs gs st <;> cases byB a <;> rfl)
  have HOk : Hid (codeIf (okFlash zs gs st) (byB a) = 0 → okFlash zs gs st = true ∧ byB a = true) := Lib.hid (by unfold codeIf; cases okFlash zs gs st <;> cases byB a <;> simp)
  generalize readOf zs gs st a = r at HRd
  generalize hcd : codeIf (okFlash zs gs st) (byB a) = cd at HC HRd HOk
  clear hcd
  have f0 := X0.out.cell 0 rfl
  have f1 := X0.out.cell 1 rfl
  have f2 := X0.out.cell 2 rfl
  rw [← hW0] at hb0 X0 f0 f1 f2
  have HK := Lib.hid (fun W' (hb : Below W0.heap.size W0 W') => And.intro ((hb.cell (cell_lt f0)).trans f0) (And.intro ((hb.cell (cell_lt f1)).trans f1) ((hb.cell (cell_lt f2)).trans f2)))
  have HW := Lib.hid hW0
  clear hW0
  have h6 : Below W0.heap.size W0 W0.drew := (Below.refl _ _).drew
  go_enter Try.func23, Try.ntmps23
  go_wp2
  rw [← HW.out]
  go_region_held3 (fun W => W.cell? ⟨w.heap.size, 0, none⟩ = some (.slice A n c) ∧ W.cell? ⟨w.heap.size, 1, none⟩ = some (.slice C m d) ∧ W.cell? ⟨w.heap.size, 2, none⟩ = some (.int .i64 st))
    (first | exact HK.out _ h6 | exact HK.out _ (bt h6 hb2))
    (first | (go_at_call 60; refine (l03At _ _).mono ?_; rintro e w' ⟨rfl, rfl⟩) | (go_at_call 59; refine (HC.out _ hb0.drew).mono ?_; rintro e w2 ⟨rfl, hb2⟩))
  have hb := bt (bt hb0 h6) hb2
  have f0' := (HK.out _ (bt h6 hb2)).1
  have f1' := (HK.out _ (bt h6 hb2)).2.1
  have f2' := (HK.out _ (bt h6 hb2)).2.2
  clear f0 f1 f2 hb0 h6 HK X0 HW HC hb2
  by_cases hz : cd = 0
  · subst hz
    obtain ⟨hok, ha⟩ := HOk.out rfl
    have q := okFlash_len hok
    obtain rfl : n = 256 := by have := H.out.1; omega
    obtain rfl : m = 16 := by have := H.out.2.1; omega
    obtain ⟨k, rfl⟩ : ∃ k : Nat, a = k := ⟨a.toNat, by have := byB_range ha; omega⟩
    have HI := Lib.hid (l03Read A C 256 c d k st zs gs w2 H.out.1 rfl H.out.2.1 (by have := byB_range ha; omega) (H.out.2.2.1.below hb) (H.out.2.2.2.below hb))
    have HRz : Hid (r = (readV zs gs st k, 0)) := Lib.hid (by rw [HRd.out, if_pos rfl]; rfl)
    generalize readV zs gs st k = z at HRz HI
    clear q hok ha H HRd HOk
    go_wp2_with fail
    refine HI.out.mono ?_
    rintro e w3 ⟨rfl, hb3⟩
    go_wp2
    refine bodyPost_ret (v := .tuple #[.int .i64 z, .int .i64 0]) (by simp [results, Try.results23, go_sem]) rfl ?_
    exact ⟨by rw [HRz.out], bt hb hb3⟩
  · have hcb : (cd != 0) = true := by simp [hz]
    have HRz : Hid (r = (0, cd)) := Lib.hid (by rw [HRd.out, if_neg hz])
    clear hz HRd HOk H
    go_wp2
    refine bodyPost_ret (v := .tuple #[.int .i64 0, .int .i64 cd]) (by simp [results, Try.results23, go_sem]) rfl ?_
    exact ⟨by rw [HRz.out], hb⟩
end Go.Proofs.Ytdanefhfngmipaa
