/- The chip's identify and read; BusRead by way of the chip. -/
import Derived.Test.YtdanefhfngmipaaBusRead
import Derived.Test.YtdanefhfngmipaaChipFlash
import Derived.Test.YtdanefhfngmipaaChipWipe
namespace Go.Proofs.Ytdanefhfngmipaa
open Go.RowKit

set_option maxRecDepth 100000 in
set_option maxHeartbeats 2000000 in
theorem chipIdentify (k : Nat) (zs : List Int) (gs : List Bool) (st : Int) (w : World) (hz : zs.length = 256) (hg : gs.length = 16) (hk : k ≤ 255) :
    Calls Try.prog 93 #[.agg (chipC zs gs st).toArray, .int .i64 k] w fun e w' => e = .returned (.int .i64 (readV zs gs 7 k)) ∧ Below w.heap.size w w' := by
  have hb0 := alloc_below w (.cells (chipC zs gs st).toArray 86)
  have hc := (BC.new w zs gs st).guard hz (k / 16) (by omega)
  have HR : Hid (∀ q, q = gs.getD (k / 16) false → readV zs gs 7 k = if k % 4 = 0 then 32 else if k % 4 = 1 then 47 else if k % 4 = 2 then (if q then 1 else 0) else 255) := Lib.hid (by intro q hq; subst hq; unfold readV; rw [if_pos rfl])
  generalize readV zs gs 7 k = r at HR
  have HR2 := Lib.hid (HR.out _ rfl)
  generalize gs.getD (k / 16) false = q at hc HR2
  generalize chipC zs gs st = cs at hb0 hc
  have HB := Lib.hid (fun W => blockOf k hk W)
  have h4 : k % 4 = 0 ∨ k % 4 = 1 ∨ k % 4 = 2 ∨ k % 4 = 3 := by omega
  have hdi : ((k / 16 : Nat) : Int) < 16 := by omega
  clear hz hg HR
  rcases h4 with h4 | h4 | h4 | h4
  · have q0 : ((k : Int) % 4 == 0) = true := by simp; omega
    have e : r = 32 := by rw [HR2.out, if_pos h4]
    clear h4 HR2
    subst e
    go_enter Try.func93, Try.ntmps93
    go_wp2
    go_ret
    exact ⟨rfl, hb0⟩
  · have q0 : ((k : Int) % 4 == 0) = false := by simp; omega
    have q1 : ((k : Int) % 4 == 1) = true := by simp; omega
    have e : r = 47 := by rw [HR2.out, if_neg (by omega), if_pos h4]
    clear h4 HR2
    subst e
    go_enter Try.func93, Try.ntmps93
    go_wp2
    go_ret
    exact ⟨rfl, hb0⟩
  · have q0 : ((k : Int) % 4 == 0) = false := by simp; omega
    have q1 : ((k : Int) % 4 == 1) = false := by simp; omega
    have q2 : ((k : Int) % 4 == 2) = true := by simp; omega
    have e : r = if q then 1 else 0 := by rw [HR2.out, if_neg (by omega), if_neg (by omega), if_pos h4]
    have HE := Lib.hid e
    clear h4 HR2 e
    cases q <;> (
      go_enter Try.func93, Try.ntmps93
      go_wp2_with (first | (go_at_call 107; refine (HB.out _).mono ?_; rintro e w' ⟨rfl, rfl⟩))
      go_ret
      exact ⟨ret_int HE.out.symm, hb0⟩)
  · have q0 : ((k : Int) % 4 == 0) = false := by simp; omega
    have q1 : ((k : Int) % 4 == 1) = false := by simp; omega
    have q2 : ((k : Int) % 4 == 2) = false := by simp; omega
    have e : r = 255 := by rw [HR2.out, if_neg (by omega), if_neg (by omega), if_neg (by omega)]
    clear h4 HR2
    subst e
    go_enter Try.func93, Try.ntmps93
    go_wp2
    go_ret
    exact ⟨rfl, hb0⟩

set_option maxRecDepth 100000 in
set_option maxHeartbeats 2000000 in
theorem chipRead (k : Nat) (zs : List Int) (gs : List Bool) (st : Int) (w : World) (hz : zs.length = 256) (hg : gs.length = 16) (hk : k ≤ 255) (hzs : ∀ z ∈ zs, 0 ≤ z ∧ z ≤ 255) :
    Calls Try.prog 65 #[.agg (chipC zs gs st).toArray, .int .i64 k] w fun e w' => e = .returned (.int .i64 (readV zs gs st k)) ∧ Below w.heap.size w w' := by
  have hb0 := alloc_below w (.cells (chipC zs gs st).toArray 86)
  have X := BC.new w zs gs st
  have x0 := X.state hz hg
  by_cases h7 : st = 7
  · subst h7
    have HI := Lib.hid (chipIdentify k zs gs 7 (w.alloc (.cells (chipC zs gs 7).toArray 86)) hz hg hk)
    have HLd := Lib.hid (X.loads hz hg)
    generalize readV zs gs 7 k = r at HI
    generalize chipC zs gs 7 = cs at hb0 x0 HI HLd
    clear X hz hg hzs
    go_enter Try.func65, Try.ntmps65
    go_wp2_with (first
      | (with_reducible refine wpList_load_mid rfl 86 (.tmp 2) rfl w.heap.size 0 rfl cs _ HLd.out.range Try.underlying86 rfl HLd.out.size ?_))
    refine HI.out.mono ?_
    rintro e w2 ⟨rfl, hb2⟩
    go_wp2
    go_ret
    exact ⟨rfl, bt hb0 hb2⟩
  · have q7 : (st == 7) = false := by simp [h7]
    have hc := X.cell k (by omega)
    have HE : Hid (readV zs gs st k = zs.getD k 0) := Lib.hid (by unfold readV; rw [if_neg h7])
    generalize readV zs gs st k = r at HE
    have hrg := hzs (zs.getD k 0) (by rw [List.getD_eq_getElem?_getD, List.getElem?_eq_getElem (by omega)]; exact List.getElem_mem _)
    generalize zs.getD k 0 = x at hc HE hrg
    have hw6 : RowKit.wrap64 x = x := by unfold RowKit.wrap64; omega
    generalize chipC zs gs st = cs at hb0 x0 hc
    have hki : (k : Int) < 256 := by omega
    clear X hz hg hzs h7
    go_enter Try.func65, Try.ntmps65
    go_wp2
    go_ret
    exact ⟨ret_int HE.out.symm, hb0⟩

set_option maxRecDepth 100000 in
set_option maxHeartbeats 2000000 in
theorem implBusReadC (A C : Option Addr) (n c m d : Nat) (st : Int) (zs : List Int) (gs : List Bool) (a : Int) (w : World) (hl : zs.length = n) (hm : gs.length = m) (hn : n ≤ maxLen) (hmm : m ≤ maxLen) (h : IntL w A zs) (g : BoolL w C gs) :
    Calls Try.prog 25 #[.agg #[.slice A n c, .slice C m d, .int .i64 st], .int .i64 a] w fun e w' => e = .returned (.tuple #[.int .i64 (readOf zs gs st a).1, .int .i64 (readOf zs gs st a).2]) ∧ Below w.heap.size w w' := by
  have hb0 := alloc_below w (.cells #[.slice A n c, .slice C m d, .int .i64 st] 26)
  have X0 := Lib.hid (Box.new w 26 #[.slice A n c, .slice C m d, .int .i64 st])
  have HC := Lib.hid (checkCell A C n c m d st a 0 zs gs _ hl hm hn hmm (h.below hb0))
  rw [show (byB a && byB 0) = byB a from by rw [show byB 0 = true from rfl, Bool.and_true]] at HC
  have H := Lib.hid (And.intro hl (And.intro hm (And.intro h g)))
  clear hl hm hn hmm h g
  by_cases hok : okFlash zs gs st = true
  · rw [hok] at HC
    have q := okFlash_len hok
    obtain rfl : n = 256 := by have := H.out.1; omega
    obtain rfl : m = 16 := by have := H.out.2.1; omega
    by_cases ha : byB a = true
    · rw [ha] at HC
      obtain ⟨k, rfl⟩ : ∃ k : Nat, a = k := ⟨a.toNat, by have := byB_range ha; omega⟩
      have hk : k ≤ 255 := by have := byB_range ha; omega
      have HRd := Lib.hid (readOf_ok zs gs st k hok ha)
      have HCo := Lib.hid (fun W (hb : Below w.heap.size w W) => chipOf A C 256 c 16 d st zs gs W H.out.1 H.out.2.1 rfl rfl q.2.2.2 (H.out.2.2.1.below hb) (H.out.2.2.2.below hb))
      have HI := Lib.hid (fun W => chipRead k zs gs st W H.out.1 H.out.2.1 hk q.2.2.2)
      generalize readOf zs gs st k = r at HRd
      generalize readV zs gs st k = z at HRd HI
      unfold GivesChip at HCo
      generalize chipC zs gs st = cs at HCo HI
      clear q hok ha
      go_enter Try.func25, Try.ntmps25
      go_wp2_with fail
      refine HC.out.mono ?_
      rintro e w1 ⟨rfl, hb1⟩
      rw [show codeIf true true = 0 from rfl]
      have hb := bt hb0 hb1
      have f0 := (X0.out.step hb1).cell 0 rfl
      have f1 := (X0.out.step hb1).cell 1 rfl
      have f2 := (X0.out.step hb1).cell 2 rfl
      go_wp2_with fail
      refine (HCo.out _ hb).mono ?_
      rintro e w2 ⟨rfl, hb2⟩
      go_wp2_with fail
      refine (HI.out _).mono ?_
      rintro e w3 ⟨rfl, hb3⟩
      go_wp2
      refine bodyPost_ret (v := .tuple #[.int .i64 z, .int .i64 0]) (by simp [results, Try.results25, go_sem]) rfl ?_
      exact ⟨by rw [HRd.out], bt (bt hb hb2) hb3⟩
    · have ha' : byB a = false := by simpa using ha
      rw [ha'] at HC
      have HRd := Lib.hid (readOf_range zs gs st a hok ha')
      clear q hok ha ha' H
      go_enter Try.func25, Try.ntmps25
      go_wp2_with fail
      refine HC.out.mono ?_
      rintro e w1 ⟨rfl, hb1⟩
      rw [show codeIf true false = 4 from rfl]
      go_wp2
      refine bodyPost_ret (v := .tuple #[.int .i64 0, .int .i64 4]) (by simp [results, Try.results25, go_sem]) rfl ?_
      exact ⟨by rw [HRd.out], bt hb0 hb1⟩
  · have hok' : okFlash zs gs st = false := by simpa using hok
    rw [hok'] at HC
    have HRd := Lib.hid (readOf_bad zs gs st a hok')
    clear hok hok' H
    go_enter Try.func25, Try.ntmps25
    go_wp2_with fail
    refine HC.out.mono ?_
    rintro e w1 ⟨rfl, hb1⟩
    rw [show ∀ b, codeIf false b = 1 from fun _ => rfl]
    go_wp2
    refine bodyPost_ret (v := .tuple #[.int .i64 0, .int .i64 1]) (by simp [results, Try.results25, go_sem]) rfl ?_
    exact ⟨by rw [HRd.out], bt hb0 hb1⟩
end Go.Proofs.Ytdanefhfngmipaa
