/- Texts of this claim, one behind the other: RtcTxt, At2, Open, OpenBytes, WalkClock. -/
import Derived.Deep.RegionHeld3
import Derived.StillTailTactics
import Derived.IntWalk
import Derived.Deep.Slices
import Derived.Lib.SmallJoins
import Derived.Test.YtophgbjbinaekaaM2
/- A clock's text, on both sides. -/
namespace Go.Proofs.Ytophgbjbinaekaa
open Go.RowKit

def td (n : Int) : ByteArray := bs (digs 2 n.toNat)
theorem td_size (n : Int) : (td n).size = 2 := by unfold td; rw [bs_size, digs_len]
theorem td_two (k : Nat) : td (k : Int) = bs [dg (k / 10), dg k] := by
  unfold td
  rw [Int.toNat_natCast, digs_front, digs_front]
  simp [digs]

set_option maxRecDepth 100000 in
theorem l02DigitsR (n : Int) (h : 0 ≤ n ∧ n ≤ 99) (w : World) : Calls Try.prog 47 #[.int .i64 n, .int .i64 2] w fun e w' => e = .returned (.string (td n)) ∧ Below w.heap.size w w' := by
  obtain ⟨k, rfl⟩ : ∃ k : Nat, n = k := ⟨n.toNat, by omega⟩
  exact l02Digits 1 k w (by omega) (by omega)

set_option maxRecDepth 100000 in
theorem conv2R (W : World) (b : Nat) (x y : UInt8) (h0 : W.cell? ⟨b, 0, none⟩ = some (.int .u8 (x.toNat : Int))) (h1 : W.cell? ⟨b, 1, none⟩ = some (.int .u8 (y.toNat : Int))) :
    (convert 22 9 (.slice (some ⟨b, 0, none⟩) 2 2)).run Try.prog W = .ok (.string (bs [x, y])) W :=
  run_convert_bytes_back (P := Try.prog) W 22 9 5 ⟨b, 0, none⟩ 2 [x, y] Try.underlying22 Try.underlying5 Try.underlying9 (fun i hi => by
    have hi' : i = 0 ∨ i = 1 := by simp at hi; omega
    rcases hi' with rfl | rfl
    · simpa [Addr.add] using h0
    · simpa [Addr.add] using h1)

set_option maxRecDepth 100000 in
set_option maxHeartbeats 1000000 in
theorem twoDigits (n : Int) (h : 0 ≤ n ∧ n ≤ 99) (w : World) : Calls Try.prog 46 #[.int .i64 n] w fun e w' => e = .returned (.string (td n)) ∧ Below w.heap.size w w' := by
  obtain ⟨k, rfl⟩ : ∃ k : Nat, n = k := ⟨n.toNat, by omega⟩
  have hk : k ≤ 99 := by omega
  have d1 : ((dg (k / 10)).toNat : Int) = 48 + (k : Int) / 10 := by rw [dg_nat]; omega
  have d2 : ((dg k).toNat : Int) = 48 + (k : Int) % 10 := by rw [dg_nat]; omega
  have HC := Lib.hid (fun (V : World) => conv2R (V.alloc (.cells #[.int .u8 (48 + (k : Int) / 10), .int .u8 (48 + (k : Int) % 10)] 5)) V.heap.size (dg (k / 10)) (dg k) (by rw [d1]; exact (Box.new V 5 _).cell 0 rfl) (by rw [d2]; exact (Box.new V 5 _).cell 1 rfl))
  have HH := Lib.hid (td_two k)
  generalize bs [dg (k / 10), dg k] = t at HC HH
  have e2 : (k : Int).tmod 10 = (k : Int) % 10 := Int.tmod_eq_emod_of_nonneg (by omega)
  have e1 : (k : Int).tdiv 10 = (k : Int) / 10 := Int.tdiv_eq_ediv_of_nonneg (by omega)
  have e3 : IntKind.i64.wrap ((k : Int) / 10) = (k : Int) / 10 := IntWalk.i64_in _ (by omega)
  have e4 : IntKind.u8.wrap ((k : Int) / 10) = (k : Int) / 10 := IntWalk.u8_in _ (by omega)
  have e5 : IntKind.u8.wrap ((k : Int) % 10) = (k : Int) % 10 := IntWalk.u8_in _ (by omega)
  have e6 : IntKind.u8.wrap (48 + (k : Int) / 10) = 48 + (k : Int) / 10 := IntWalk.u8_in _ (by omega)
  have e7 : IntKind.u8.wrap (48 + (k : Int) % 10) = 48 + (k : Int) % 10 := IntWalk.u8_in _ (by omega)
  have hcv := HC.out w
  clear d1 d2 h hk
  go_enter Try.func46, Try.ntmps46
  go_wp2
  go_ret
  exact ⟨by rw [HH.out]; rfl, alloc_below _ _⟩

def txt (h m s : Int) : ByteArray := td h ++ ⟨#[58]⟩ ++ td m ++ ⟨#[58]⟩ ++ td s
def rtText (d0 d1 d2 d4 d5 : Int) : ByteArray × Int := if rtcB d0 d1 d2 d4 d5 then (txt d2 d1 d0, 0) else (ByteArray.empty, 1)

set_option maxRecDepth 100000 in
set_option maxHeartbeats 2000000 in
theorem momentText (h m s : Int) (q : (0 ≤ h ∧ h ≤ 99) ∧ (0 ≤ m ∧ m ≤ 99) ∧ 0 ≤ s ∧ s ≤ 99) (w : World) : Calls Try.prog 34 #[.agg #[.int .i64 h, .int .i64 m, .int .i64 s]] w fun e w' => e = .returned (.string (txt h m s)) ∧ Below w.heap.size w w' := by
  have HT := Lib.hid (fun n W (q : 0 ≤ n ∧ n ≤ 99) => twoDigits n q W)
  have HE : Hid (txt h m s = td h ++ ⟨#[58]⟩ ++ td m ++ ⟨#[58]⟩ ++ td s) := Lib.hid rfl
  generalize txt h m s = r at HE ⊢
  have z1 := td_size h
  have z2 := td_size m
  have z3 := td_size s
  have HQ := Lib.hid q
  clear q
  obtain ⟨W1, hW1⟩ : ∃ W1, W1 = w.alloc (.cells #[.int .i64 h, .int .i64 m, .int .i64 s] 51) := ⟨_, rfl⟩
  have X1 : Hid (Box W1 w.heap.size 51 #[.int .i64 h, .int .i64 m, .int .i64 s]) := Lib.hid (by rw [hW1]; exact Box.new _ _ _)
  have hb0 : Below w.heap.size w W1 := by rw [hW1]; exact alloc_below w _
  have HW := Lib.hid hW1
  clear hW1
  have s0 := X1.out.cell 0 rfl
  have s1 := X1.out.cell 1 rfl
  have s2 := X1.out.cell 2 rfl
  have HK := Lib.hid (fun W' (hb : Below W1.heap.size W1 W') => And.intro ((hb.cell (cell_lt s0)).trans s0) (And.intro ((hb.cell (cell_lt s1)).trans s1) ((hb.cell (cell_lt s2)).trans s2)))
  have h6 : Below W1.heap.size W1 W1.drew := (Below.refl _ _).drew
  go_enter Try.func34, Try.ntmps34
  go_wp2_with fail
  rw [← HW.out]
  go_region_held3 (fun W => W.cell? ⟨w.heap.size, 0, none⟩ = some (.int .i64 h) ∧ W.cell? ⟨w.heap.size, 1, none⟩ = some (.int .i64 m) ∧ W.cell? ⟨w.heap.size, 2, none⟩ = some (.int .i64 s))
    (exact HK.out _ h6)
    (first | (go_at_call 46; refine (HT.out _ _ (by first | exact HQ.out.1 | exact HQ.out.2.1 | exact HQ.out.2.2)).mono ?_; rintro e w2 ⟨rfl, hb2⟩; replace h6 := bt h6 hb2; clear hb2))
  go_wp2
  go_ret
  exact ⟨by rw [HE.out]; rfl, bt hb0 h6⟩

set_option maxRecDepth 100000 in
set_option maxHeartbeats 2000000 in
theorem l11Text (d0 d1 d2 : Int) (d3 : Bool) (d4 d5 : Int) (q : (0 ≤ d2 ∧ d2 ≤ 99) ∧ (0 ≤ d1 ∧ d1 ≤ 99) ∧ 0 ≤ d0 ∧ d0 ≤ 99) (w : World) : Calls Try.prog 35 #[.agg #[.int .i64 d0, .int .i64 d1, .int .i64 d2, .bool d3, .int .i64 d4, .int .i64 d5]] w fun e w' => e = .returned (.string (txt d2 d1 d0)) ∧ Below w.heap.size w w' := by
  have HT := Lib.hid (fun n W (q : 0 ≤ n ∧ n ≤ 99) => l02DigitsR n q W)
  have HE : Hid (txt d2 d1 d0 = td d2 ++ ⟨#[58]⟩ ++ td d1 ++ ⟨#[58]⟩ ++ td d0) := Lib.hid rfl
  generalize txt d2 d1 d0 = r at HE ⊢
  have z1 := td_size d2
  have z2 := td_size d1
  have z3 := td_size d0
  have HQ := Lib.hid q
  clear q
  obtain ⟨W1, hW1⟩ : ∃ W1, W1 = w.alloc (.cells #[.int .i64 d0, .int .i64 d1, .int .i64 d2, .bool d3, .int .i64 d4, .int .i64 d5] 24) := ⟨_, rfl⟩
  have X1 : Hid (Box W1 w.heap.size 24 #[.int .i64 d0, .int .i64 d1, .int .i64 d2, .bool d3, .int .i64 d4, .int .i64 d5]) := Lib.hid (by rw [hW1]; exact Box.new _ _ _)
  have hb0 : Below w.heap.size w W1 := by rw [hW1]; exact alloc_below w _
  have HW := Lib.hid hW1
  clear hW1
  have s0 := X1.out.cell 0 rfl
  have s1 := X1.out.cell 1 rfl
  have s2 := X1.out.cell 2 rfl
  have HK := Lib.hid (fun W' (hb : Below W1.heap.size W1 W') => And.intro ((hb.cell (cell_lt s0)).trans s0) (And.intro ((hb.cell (cell_lt s1)).trans s1) ((hb.cell (cell_lt s2)).trans s2)))
  have h6 : Below W1.heap.size W1 W1.drew := (Below.refl _ _).drew
  go_enter Try.func35, Try.ntmps35
  go_wp2_with fail
  rw [← HW.out]
  go_region_held3 (fun W => W.cell? ⟨w.heap.size, 0, none⟩ = some (.int .i64 d0) ∧ W.cell? ⟨w.heap.size, 1, none⟩ = some (.int .i64 d1) ∧ W.cell? ⟨w.heap.size, 2, none⟩ = some (.int .i64 d2))
    (exact HK.out _ h6)
    (first | (go_at_call 47; refine (HT.out _ _ (by first | exact HQ.out.1 | exact HQ.out.2.1 | exact HQ.out.2.2)).mono ?_; rintro e w2 ⟨rfl, hb2⟩; replace h6 := bt h6 hb2; clear hb2))
  go_wp2
  go_ret
  exact ⟨by rw [HE.out]; rfl, bt hb0 h6⟩

theorem rtc_two {d0 d1 d2 d4 d5 : Int} (h : rtcB d0 d1 d2 d4 d5 = true) : (0 ≤ d2 ∧ d2 ≤ 99) ∧ (0 ≤ d1 ∧ d1 ≤ 99) ∧ 0 ≤ d0 ∧ d0 ≤ 99 := by
  simp only [rtcB, Bool.and_eq_true] at h
  have a := rg_says h.1.1.1.1
  have b := rg_says h.1.1.1.2
  have c := rg_says h.1.1.2
  omega

set_option maxRecDepth 100000 in
set_option maxHeartbeats 2000000 in
theorem specRtcTextA (d0 d1 d2 : Int) (d3 : Bool) (d4 d5 : Int) (w : World) : Calls Try.prog 15 #[.agg #[.int .i64 d0, .int .i64 d1, .int .i64 d2, .bool d3, .int .i64 d4, .int .i64 d5]] w fun e w' => e = .returned (.tuple #[.string (rtText d0 d1 d2 d4 d5).1, .int .i64 (rtText d0 d1 d2 d4 d5).2]) ∧ Below w.heap.size w w' := by
  have HV := Lib.hid (fun W => specRtcOKA d0 d1 d2 d3 d4 d5 W)
  obtain ⟨W1, hW1⟩ : ∃ W1, W1 = w.alloc (.cells #[.int .i64 d0, .int .i64 d1, .int .i64 d2, .bool d3, .int .i64 d4, .int .i64 d5] 24) := ⟨_, rfl⟩
  have X1 : Hid (Box W1 w.heap.size 24 #[.int .i64 d0, .int .i64 d1, .int .i64 d2, .bool d3, .int .i64 d4, .int .i64 d5]) := Lib.hid (by rw [hW1]; exact Box.new _ _ _)
  have hb0 : Below w.heap.size w W1 := by rw [hW1]; exact alloc_below w _
  have HW := Lib.hid hW1
  clear hW1
  cases hv : rtcB d0 d1 d2 d4 d5 with
  | false =>
    rw [show rtText d0 d1 d2 d4 d5 = (ByteArray.empty, 1) by simp [rtText, hv]]
    rw [hv] at HV
    go_enter Try.func15, Try.ntmps15
    go_wp2_with fail
    have s0 := X1.out.cell 0 rfl; have s1 := X1.out.cell 1 rfl; have s2 := X1.out.cell 2 rfl; have s3 := X1.out.cell 3 rfl; have s4 := X1.out.cell 4 rfl; have s5 := X1.out.cell 5 rfl
    rw [← HW.out]
    go_wp2_with fail
    refine (HV.out _).mono ?_
    rintro e w2 ⟨rfl, hc2⟩
    have hb2 := bt hb0 hc2
    go_wp2
    refine bodyPost_ret (v := .tuple #[.string ByteArray.empty, .int .i64 1]) (by simp [results, Try.results15, go_sem]; rfl) rfl ?_
    exact ⟨rfl, hb2⟩
  | true =>
    rw [show rtText d0 d1 d2 d4 d5 = (txt d2 d1 d0, 0) by simp [rtText, hv]]
    have HT := Lib.hid (fun W => l11Text d0 d1 d2 d3 d4 d5 (rtc_two hv) W)
    generalize txt d2 d1 d0 = r at HT ⊢
    rw [hv] at HV
    clear hv
    go_enter Try.func15, Try.ntmps15
    go_wp2_with fail
    have s0 := X1.out.cell 0 rfl; have s1 := X1.out.cell 1 rfl; have s2 := X1.out.cell 2 rfl; have s3 := X1.out.cell 3 rfl; have s4 := X1.out.cell 4 rfl; have s5 := X1.out.cell 5 rfl
    rw [← HW.out]
    go_wp2_with fail
    refine (HV.out _).mono ?_
    rintro e w2 ⟨rfl, hc2⟩
    have X2 := Lib.hid (X1.out.step hc2)
    have hb2 := bt hb0 hc2
    clear X1 hb0 hc2 s0 s1 s2 s3 s4 s5 HW HV
    have s0 := X2.out.cell 0 rfl; have s1 := X2.out.cell 1 rfl; have s2 := X2.out.cell 2 rfl; have s3 := X2.out.cell 3 rfl; have s4 := X2.out.cell 4 rfl; have s5 := X2.out.cell 5 rfl
    go_wp2_with fail
    refine (HT.out _).mono ?_
    rintro e w3 ⟨rfl, hc3⟩
    have hb3 := bt hb2 hc3
    go_wp2
    refine bodyPost_ret (v := .tuple #[.string r, .int .i64 0]) (by simp [results, Try.results15, go_sem]) rfl ?_
    exact ⟨rfl, hb3⟩

set_option maxRecDepth 100000 in
set_option maxHeartbeats 2000000 in
theorem implRtcTextA (d0 d1 d2 : Int) (d3 : Bool) (d4 d5 : Int) (w : World) : Calls Try.prog 14 #[.agg #[.int .i64 d0, .int .i64 d1, .int .i64 d2, .bool d3, .int .i64 d4, .int .i64 d5]] w fun e w' => e = .returned (.tuple #[.string (rtText d0 d1 d2 d4 d5).1, .int .i64 (rtText d0 d1 d2 d4 d5).2]) ∧ Below w.heap.size w w' := by
  have HV := Lib.hid (fun W => rtcValid d0 d1 d2 d3 d4 d5 W)
  obtain ⟨W1, hW1⟩ : ∃ W1, W1 = w.alloc (.cells #[.int .i64 d0, .int .i64 d1, .int .i64 d2, .bool d3, .int .i64 d4, .int .i64 d5] 24) := ⟨_, rfl⟩
  have X1 : Hid (Box W1 w.heap.size 24 #[.int .i64 d0, .int .i64 d1, .int .i64 d2, .bool d3, .int .i64 d4, .int .i64 d5]) := Lib.hid (by rw [hW1]; exact Box.new _ _ _)
  have hb0 : Below w.heap.size w W1 := by rw [hW1]; exact alloc_below w _
  have HW := Lib.hid hW1
  clear hW1
  cases hv : rtcB d0 d1 d2 d4 d5 with
  | false =>
    rw [show rtText d0 d1 d2 d4 d5 = (ByteArray.empty, 1) by simp [rtText, hv]]
    rw [hv] at HV
    go_enter Try.func14, Try.ntmps14
    go_wp2_with fail
    have s0 := X1.out.cell 0 rfl; have s1 := X1.out.cell 1 rfl; have s2 := X1.out.cell 2 rfl; have s3 := X1.out.cell 3 rfl; have s4 := X1.out.cell 4 rfl; have s5 := X1.out.cell 5 rfl
    rw [← HW.out]
    go_wp2_with fail
    refine (HV.out _).mono ?_
    rintro e w2 ⟨rfl, hc2⟩
    have hb2 := bt hb0 hc2
    go_wp2
    refine bodyPost_ret (v := .tuple #[.string ByteArray.empty, .int .i64 1]) (by simp [results, Try.results14, go_sem]; rfl) rfl ?_
    exact ⟨rfl, hb2⟩
  | true =>
    rw [show rtText d0 d1 d2 d4 d5 = (txt d2 d1 d0, 0) by simp [rtText, hv]]
    have HN := Lib.hid (fun W => rtc_now d0 d1 d2 d3 d4 d5 W)
    have HT := Lib.hid (fun W => momentText d2 d1 d0 (rtc_two hv) W)
    generalize txt d2 d1 d0 = r at HT ⊢
    rw [hv] at HV
    clear hv
    go_enter Try.func14, Try.ntmps14
    go_wp2_with fail
    have s0 := X1.out.cell 0 rfl; have s1 := X1.out.cell 1 rfl; have s2 := X1.out.cell 2 rfl; have s3 := X1.out.cell 3 rfl; have s4 := X1.out.cell 4 rfl; have s5 := X1.out.cell 5 rfl
    rw [← HW.out]
    go_wp2_with fail
    refine (HV.out _).mono ?_
    rintro e w2 ⟨rfl, hc2⟩
    have X2 := Lib.hid (X1.out.step hc2)
    have hb2 := bt hb0 hc2
    clear X1 hb0 hc2 s0 s1 s2 s3 s4 s5 HW HV
    have s0 := X2.out.cell 0 rfl; have s1 := X2.out.cell 1 rfl; have s2 := X2.out.cell 2 rfl; have s3 := X2.out.cell 3 rfl; have s4 := X2.out.cell 4 rfl; have s5 := X2.out.cell 5 rfl
    go_wp2_with fail
    refine (HN.out _).mono ?_
    rintro e w4 ⟨rfl, hc4⟩
    have hb4 := bt hb2 hc4
    go_wp2_with fail
    refine (HT.out _).mono ?_
    rintro e w3 ⟨rfl, hc3⟩
    have hb3 := bt hb4 hc3
    go_wp2
    refine bodyPost_ret (v := .tuple #[.string r, .int .i64 0]) (by simp [results, Try.results14, go_sem]) rfl ?_
    exact ⟨rfl, hb3⟩

end Go.Proofs.Ytophgbjbinaekaa

/- laws.at, told exactly; laws.sameTexts. -/
namespace Go.Proofs.Ytophgbjbinaekaa
open Go.RowKit

def atOf (zs : List Nat) (i N : Nat) : Nat := if zs.length = 0 then i * 7 % N else (zs.getD (i % zs.length) 0 * 31 + zs.getD ((i + 1) % zs.length) 0 + i / zs.length) % N
theorem atOf_lt (zs : List Nat) (i N : Nat) (h : 0 < N) : atOf zs i N < N := by unfold atOf; split <;> exact Nat.mod_lt _ h

set_option maxRecDepth 100000 in
set_option maxHeartbeats 4000000 in
theorem lawAtE (i N : Nat) (A : Option Addr) (n c : Nat) (zs : List Nat) (w : World) (hi : i ≤ 1000) (hN : 2 ≤ N) (hN2 : N ≤ 5000) (hn : n ≤ 1048576) (hl : zs.length = n) (h : ByB w w.heap.size A zs) :
    Calls Try.prog 17 #[.slice A n c, .int .i64 (i : Nat), .int .i64 (N : Nat)] w fun e w' => e = .returned (.int .i64 (atOf zs i N : Nat)) ∧ Below w.heap.size w w' := by
  have h1 : ¬ (N : Int) ≤ 1 := by omega
  have h3 : ¬ (N : Int) = 0 := by omega
  have hi0 : (0 : Int) ≤ (i : Int) := by omega
  by_cases h0 : n = 0
  · have h0' : (n : Int) = 0 := by omega
    have HA : Hid (atOf zs i N = i * 7 % N) := Lib.hid (by unfold atOf; rw [if_pos (by omega)])
    have u1 : (0 : Int) ≤ (i : Int) * 7 := by omega
    clear h hl
    go_enter Try.func17, Try.ntmps17
    go_wp2
    have e1 : (i : Int) * 7 % (N : Int) = ((i * 7 % N : Nat) : Int) := by simp
    rw [e1]
    refine bodyPost_ret (v := .int .i64 ((i * 7 % N : Nat) : Int)) (by simp [results, Try.results17, go_sem]) rfl ?_
    exact ⟨by rw [HA.out], Below.refl _ _⟩
  · have h0' : ¬ (n : Int) = 0 := by omega
    have HA : Hid (atOf zs i N = (zs.getD (i % n) 0 * 31 + zs.getD ((i + 1) % n) 0 + i / n) % N) := Lib.hid (by unfold atOf; rw [if_neg (by omega), hl])
    obtain ⟨b, off, rfl, hb, hc, hv⟩ := h (i % n) (by rw [hl]; exact Nat.mod_lt _ (by omega))
    obtain ⟨b', off', eA, _, hc', hv'⟩ := h ((i + 1) % n) (by rw [hl]; exact Nat.mod_lt _ (by omega))
    injection eA with eA; injection eA with e1 e2; subst e1 e2
    generalize zs.getD (i % n) 0 = x at hc hv HA
    generalize zs.getD ((i + 1) % n) 0 = y at hc' hv' HA
    obtain ⟨p, hp⟩ : ∃ p, p = i % n := ⟨_, rfl⟩
    obtain ⟨q, hq⟩ : ∃ q, q = (i + 1) % n := ⟨_, rfl⟩
    obtain ⟨r, hr⟩ : ∃ r, r = i / n := ⟨_, rfl⟩
    rw [← hp] at hc
    rw [← hq] at hc'
    have t1 : (i : Int).tmod (n : Int) = (p : Int) := by rw [Int.tmod_eq_emod_of_nonneg (by omega), hp]; simp
    have t2 : ((i : Int) + 1).tmod (n : Int) = (q : Int) := by rw [Int.tmod_eq_emod_of_nonneg (by omega), hq]; simp
    have t3 : (i : Int).tdiv (n : Int) = (r : Int) := by rw [Int.tdiv_eq_ediv_of_nonneg (by omega), hr]; simp
    have hp1 : (p : Int) < (n : Int) := by have := Nat.mod_lt i (show 0 < n by omega); omega
    have hq1 : (q : Int) < (n : Int) := by have := Nat.mod_lt (i + 1) (show 0 < n by omega); omega
    have hr1 : r ≤ 1000 := by rw [hr]; exact Nat.le_trans (Nat.div_le_self _ _) hi
    rw [← hr] at HA
    clear hp hq hr h hl
    have t1' : (i : Int) % (n : Int) = (p : Int) := by rw [← t1, Int.tmod_eq_emod_of_nonneg (by omega)]
    have t2' : ((i : Int) + 1) % (n : Int) = (q : Int) := by rw [← t2, Int.tmod_eq_emod_of_nonneg (by omega)]
    have t3' : (i : Int) / (n : Int) = (r : Int) := by rw [← t3, Int.tdiv_eq_ediv_of_nonneg (by omega)]
    have u0 : IntKind.i64.wrap ((i : Int) + 1) = (i : Int) + 1 := IntWalk.i64_in _ ⟨by omega, by omega⟩
    have u1 : IntKind.i64.wrap (p : Int) = (p : Int) := IntWalk.i64_in _ ⟨by omega, by omega⟩
    have u2 : IntKind.i64.wrap (q : Int) = (q : Int) := IntWalk.i64_in _ ⟨by omega, by omega⟩
    have u3 : IntKind.i64.wrap (r : Int) = (r : Int) := IntWalk.i64_in _ ⟨by omega, by omega⟩
    have u4 : IntKind.i64.wrap (x : Int) = (x : Int) := IntWalk.i64_in _ ⟨by omega, by omega⟩
    have u5 : IntKind.i64.wrap (y : Int) = (y : Int) := IntWalk.i64_in _ ⟨by omega, by omega⟩
    have u6 : IntKind.i64.wrap ((x : Int) * 31) = (x : Int) * 31 := IntWalk.i64_in _ ⟨by omega, by omega⟩
    have u7 : IntKind.i64.wrap ((x : Int) * 31 + (y : Int)) = (x : Int) * 31 + (y : Int) := IntWalk.i64_in _ ⟨by omega, by omega⟩
    have u8 : IntKind.i64.wrap ((x : Int) * 31 + (y : Int) + (r : Int)) = (x : Int) * 31 + (y : Int) + (r : Int) := IntWalk.i64_in _ ⟨by omega, by omega⟩
    obtain ⟨z, hz⟩ : ∃ z, z = (x * 31 + y + r) % N := ⟨_, rfl⟩
    have HA2 : Hid (atOf zs i N = z) := Lib.hid (by rw [HA.out, hz])
    have hz1 : z < N := by rw [hz]; exact Nat.mod_lt _ (by omega)
    have t4' : ((x : Int) * 31 + (y : Int) + (r : Int)) % (N : Int) = (z : Int) := by rw [hz]; simp
    have t4 : ((x : Int) * 31 + (y : Int) + (r : Int)).tmod (N : Int) = (z : Int) := by rw [Int.tmod_eq_emod_of_nonneg (by omega), t4']
    have u9 : IntKind.i64.wrap (z : Int) = (z : Int) := IntWalk.i64_in _ ⟨by omega, by omega⟩
    clear hz
    go_enter Try.func17, Try.ntmps17
    go_wp2
    go_quiet (fail)
    go_wp2
    refine bodyPost_ret (v := .int .i64 (z : Int)) (by simp [results, Try.results17, go_sem]) rfl ?_
    exact ⟨by rw [HA2.out], below_drewN (Below.refl _ _) _⟩

end Go.Proofs.Ytophgbjbinaekaa

/- A disk that came in, opened: its two slices as lists. Nothing here walks. -/
namespace Go.Proofs.Ytophgbjbinaekaa
open Go.RowKit Go.ChangeShapes Go.WideShapes

section
variable {H : Type} {enc : TypeId × Value → H} {P : Program} {w : World} {spare : Nat → Bool} {held : Bool}

theorem getD_range {α : Type} (n : Nat) (f : Nat → α) (d : α) (i : Nat) (h : i < n) : ((List.range n).map f).getD i d = f i := by
  simp [List.getD_eq_getElem?_getD, h]

theorem add_plain {a : Addr} {b off i : Nat} {v : Value} (h : w.cell? (a.add i) = some v) (ha : a = ⟨b, off, none⟩) : w.cell? ⟨b, off + i, none⟩ = some v := by
  subst ha
  unfold Addr.add at h
  by_cases hi : i = 0
  · subst hi; simpa using h
  · rw [if_neg hi] at h; exact h

end

end Go.Proofs.Ytophgbjbinaekaa

/- A []byte that came in, opened: its bytes as numbers below 256, in a block that is there. -/
namespace Go.Proofs.Ytophgbjbinaekaa
open Go.RowKit Go.ChangeShapes Go.WideShapes

theorem open_bytes {H : Type} {enc : TypeId × Value → H} {P : Program} {w : World} {spare : Nat → Bool} {held : Bool} {t e : TypeId} {fuel : Nat} {v : Value} {x : DataW H × List MemPlace} (ht : P.underlying t = some (.slice e)) (he : P.underlying e = some (.int .u8)) (hce : P.cellsOf e = 1)
    (h : DataW.trod enc P w 0 spare held fuel t [v] = some x) :
    ∃ A n c, ∃ zs : List Nat, v = .slice A n c ∧ zs.length = n ∧ n ≤ maxLen ∧ ByB w w.heap.size A zs := by
  rcases Deep.open_slice1 ht hce h with ⟨hcs, _⟩ | ⟨a, len, cap, m, k, V, D, Pl, hcs, _, hl, hm, hmm, _, hx⟩
  · injection hcs with hv _
    exact ⟨none, 0, 0, [], hv, rfl, by unfold maxLen; omega, fun i hi => by simp at hi⟩
  · injection hcs with hv _
    have hlm : len ≤ m := by rw [hmm]; split <;> omega
    obtain ⟨S, hS⟩ := Deep.choose_lt (n := len) (p := fun i (s : Nat) => w.cell? (a.add i) = some (.int .u8 (s : Int)) ∧ s < 256) (fun i hi => by
      obtain ⟨h1, h2⟩ := hx i (by omega)
      obtain ⟨s, hc, _, hs⟩ := DataW.trod_int he h2
      injection hc with hc _
      have hr : 0 ≤ s ∧ s < 256 := by
        have hs' : decide (IntKind.u8.min ≤ s) && decide (s ≤ IntKind.u8.max) := hs
        rw [Bool.and_eq_true, decide_eq_true_eq, decide_eq_true_eq] at hs'
        have e1 : IntKind.u8.min = 0 := by decide
        have e2 : IntKind.u8.max = 255 := by decide
        rw [e1, e2] at hs'
        omega
      exact ⟨s.toNat, by rw [h1, hc, Int.toNat_of_nonneg hr.1], by omega⟩)
    refine ⟨some a, len, cap, (List.range len).map S, hv, by simp, by omega, fun i hi => ?_⟩
    have hi' : i < len := by simpa using hi
    have h0 := (hS 0 (by omega)).1
    have hsp := World.cell?_spot h0
    obtain ⟨b, off, spot⟩ := a
    have hsp' : spot = none := by simpa [Addr.add] using hsp
    subst hsp'
    have hc := add_plain (hS i hi').1 rfl
    refine ⟨b, off, rfl, cell_lt hc, ?_, ?_⟩
    · rw [getD_range len S _ i hi']; exact hc
    · rw [getD_range len S _ i hi']; exact (hS i hi').2
set_option maxRecDepth 100000 in
theorem cellsU8 : Try.prog.cellsOf 5 = 1 := by kernel_rfl
end Go.Proofs.Ytophgbjbinaekaa

/- The law FnClock, walked. Written by gen_walkclock.py. -/
namespace Go.Proofs.Ytophgbjbinaekaa
open Go.RowKit

theorem rtcB_mk {s m h am ah : Int} (q : MomR s m h) (h1 : 0 ≤ am ∧ am ≤ 59) (h2 : 0 ≤ ah ∧ ah ≤ 23) : rtcB s m h am ah = true := by
  simp only [rtcB, Bool.and_eq_true]; exact ⟨⟨⟨⟨rg_of q.s, rg_of q.m⟩, rg_of q.h⟩, rg_of h1⟩, rg_of h2⟩
theorem alarm_of {s m h am ah : Int} (q : rtcB s m h am ah = true) : (0 ≤ am ∧ am ≤ 59) ∧ 0 ≤ ah ∧ ah ≤ 23 := by
  simp only [rtcB, Bool.and_eq_true] at q; exact ⟨rg_says q.1.2, rg_says q.2⟩
theorem rtcB_nxt {s m h am ah : Int} (q : rtcB s m h am ah = true) : rtcB (nxt s m h).s (nxt s m h).m (nxt s m h).h am ah = true :=
  rtcB_mk (nxt_ok (momR_of q)) (alarm_of q).1 (alarm_of q).2
set_option maxRecDepth 100000 in
theorem implTickT (d0 d1 d2 : Int) (d3 : Bool) (d4 d5 : Int) (q : rtcB d0 d1 d2 d4 d5 = true) (w : World) : Calls Try.prog 12 #[.agg #[.int .i64 (d0), .int .i64 (d1), .int .i64 (d2), .bool d3, .int .i64 (d4), .int .i64 (d5)]] w fun e w' => e = .returned (.tuple #[.agg #[.int .i64 ((nxt d0 d1 d2).s), .int .i64 ((nxt d0 d1 d2).m), .int .i64 ((nxt d0 d1 d2).h), .bool d3, .int .i64 (d4), .int .i64 (d5)], .bool (ringB (nxt d0 d1 d2).s (nxt d0 d1 d2).m (nxt d0 d1 d2).h d3 d4 d5), .int .i64 0]) ∧ Below w.heap.size w w' := by
  have := implTickRtcA d0 d1 d2 d3 d4 d5 w
  rw [show tk d0 d1 d2 d3 d4 d5 = ⟨(nxt d0 d1 d2).s, (nxt d0 d1 d2).m, (nxt d0 d1 d2).h, d3, d4, d5, ringB (nxt d0 d1 d2).s (nxt d0 d1 d2).m (nxt d0 d1 d2).h d3 d4 d5, 0⟩ by simp [tk, q]] at this
  exact this
set_option maxRecDepth 100000 in
theorem implTextT (d0 d1 d2 : Int) (d3 : Bool) (d4 d5 : Int) (q : rtcB d0 d1 d2 d4 d5 = true) (w : World) : Calls Try.prog 14 #[.agg #[.int .i64 (d0), .int .i64 (d1), .int .i64 (d2), .bool d3, .int .i64 (d4), .int .i64 (d5)]] w fun e w' => e = .returned (.tuple #[.string (txt d2 d1 d0), .int .i64 0]) ∧ Below w.heap.size w w' := by
  have := implRtcTextA d0 d1 d2 d3 d4 d5 w
  rw [show rtText d0 d1 d2 d4 d5 = (txt d2 d1 d0, 0) by simp [rtText, q]] at this
  exact this
set_option maxRecDepth 100000 in
theorem specTickT (d0 d1 d2 : Int) (d3 : Bool) (d4 d5 : Int) (q : rtcB d0 d1 d2 d4 d5 = true) (w : World) : Calls Try.prog 13 #[.agg #[.int .i64 (d0), .int .i64 (d1), .int .i64 (d2), .bool d3, .int .i64 (d4), .int .i64 (d5)]] w fun e w' => e = .returned (.tuple #[.agg #[.int .i64 ((nxt d0 d1 d2).s), .int .i64 ((nxt d0 d1 d2).m), .int .i64 ((nxt d0 d1 d2).h), .bool d3, .int .i64 (d4), .int .i64 (d5)], .bool (ringB (nxt d0 d1 d2).s (nxt d0 d1 d2).m (nxt d0 d1 d2).h d3 d4 d5), .int .i64 0]) ∧ Below w.heap.size w w' := by
  have := specTickRtcA d0 d1 d2 d3 d4 d5 w
  rw [show tk d0 d1 d2 d3 d4 d5 = ⟨(nxt d0 d1 d2).s, (nxt d0 d1 d2).m, (nxt d0 d1 d2).h, d3, d4, d5, ringB (nxt d0 d1 d2).s (nxt d0 d1 d2).m (nxt d0 d1 d2).h d3 d4 d5, 0⟩ by simp [tk, q]] at this
  exact this
set_option maxRecDepth 100000 in
theorem specTextT (d0 d1 d2 : Int) (d3 : Bool) (d4 d5 : Int) (q : rtcB d0 d1 d2 d4 d5 = true) (w : World) : Calls Try.prog 15 #[.agg #[.int .i64 (d0), .int .i64 (d1), .int .i64 (d2), .bool d3, .int .i64 (d4), .int .i64 (d5)]] w fun e w' => e = .returned (.tuple #[.string (txt d2 d1 d0), .int .i64 0]) ∧ Below w.heap.size w w' := by
  have := specRtcTextA d0 d1 d2 d3 d4 d5 w
  rw [show rtText d0 d1 d2 d4 d5 = (txt d2 d1 d0, 0) by simp [rtText, q]] at this
  exact this
set_option maxRecDepth 100000 in
theorem implOkT (d0 d1 d2 : Int) (d3 : Bool) (d4 d5 : Int) (q : rtcB d0 d1 d2 d4 d5 = true) (w : World) : Calls Try.prog 16 #[.agg #[.int .i64 (d0), .int .i64 (d1), .int .i64 (d2), .bool d3, .int .i64 (d4), .int .i64 (d5)]] w fun e w' => e = .returned (.bool true) ∧ Below w.heap.size w w' := by
  have := implRtcOKA d0 d1 d2 d3 d4 d5 w
  rw [q] at this
  exact this
set_option maxRecDepth 100000 in
theorem implSetT (s m h : Int) (q : MomR s m h) (hr mn : Int) (h1 : 0 ≤ hr ∧ hr ≤ 23) (h2 : 0 ≤ mn ∧ mn ≤ 59) (w : World) : Calls Try.prog 18 #[.agg #[.int .i64 (s), .int .i64 (m), .int .i64 (h), .bool false, .int .i64 (0), .int .i64 (0)], .int .i64 hr, .int .i64 mn] w fun e w' => e = .returned (.tuple #[.agg #[.int .i64 (s), .int .i64 (m), .int .i64 (h), .bool true, .int .i64 (mn), .int .i64 (hr)], .int .i64 0]) ∧ Below w.heap.size w w' := by
  have := implSetAlarmA s m h false 0 0 hr mn w
  rw [show sa s m h 0 0 hr mn = ⟨s, m, h, true, mn, hr, false, 0⟩ by simp [sa, rtcB_mk q (am := 0) (ah := 0) (by omega) (by omega), rg_of h1, rg_of h2]] at this
  exact this
theorem ring_no {s m h H M k : Int} (q : MomR s m h) (e : (h * 60 + m) * 60 + s = ((H * 60 + M) * 60 + 58 + k) % 86400) (hk : 0 ≤ k ∧ k < 70) :
    ringB (nxt s m h).s (nxt s m h).m (nxt s m h).h true M H = false ∧ ((nxt s m h).h * 60 + (nxt s m h).m) * 60 + (nxt s m h).s = ((H * 60 + M) * 60 + 58 + (k + 1)) % 86400 := by
  have hd := nxt_day q
  have ho := nxt_ok q
  have e2 : ((nxt s m h).h * 60 + (nxt s m h).m) * 60 + (nxt s m h).s = ((h * 60 + m) * 60 + s + 1) % 86400 := by rw [hd]; simp only; omega
  have e3 : ((nxt s m h).h * 60 + (nxt s m h).m) * 60 + (nxt s m h).s = ((H * 60 + M) * 60 + 58 + (k + 1)) % 86400 := by omega
  refine ⟨?_, e3⟩
  simp only [ringB, Bool.true_and, Bool.and_eq_false_iff, decide_eq_false_iff_not]
  apply Classical.byContradiction
  intro c
  simp only [not_or, Classical.not_not] at c
  obtain ⟨⟨c1, c2⟩, c3⟩ := c
  rw [c1, c2, c3] at e3
  omega
theorem ring_yes {H M : Int} (hH : 0 ≤ H ∧ H ≤ 23) (hM : 0 ≤ M ∧ M ≤ 59) : ringB (nxt 59 M H).s (nxt 59 M H).m (nxt 59 M H).h true ((M + 1) % 60) ((H + (M + 1) / 60) % 24) = true := by
  have hd := nxt_day (s := 59) (m := M) (h := H) ⟨by omega, hM, hH⟩
  rw [hd]
  simp only [ringB, Bool.true_and, Bool.and_eq_true, decide_eq_true_eq]
  omega
theorem momR_59 {H M s : Int} (hH : 0 ≤ H ∧ H ≤ 23) (hM : 0 ≤ M ∧ M ≤ 59) (hs : 0 ≤ s ∧ s ≤ 59) : MomR s M H := ⟨hs, hM, hH⟩

set_option maxRecDepth 100000 in
set_option maxHeartbeats 16000000 in
theorem walkClock (A : Option Addr) (n c : Nat) (zs : List Nat) (A' : Option Addr) (n' c' : Nat) (zs' : List Nat) (w : World) (hl : zs.length = n) (hl' : zs'.length = n') (hn : n ≤ maxLen) (hn' : n' ≤ maxLen) (h : ByB w w.heap.size A zs) (h' : ByB w w.heap.size A' zs') :
    Calls Try.prog 3 #[.slice A n c, .slice A' n' c'] w fun e w' => e = .returned (.bool true) ∧ Below w.heap.size w w' := by
  unfold maxLen at hn hn'
  by_cases hle : 1048576 < n
  · have i1 : (1048576 : Int) < (n : Int) := by omega
    clear hle
    go_enter Try.func3, Try.ntmps3
    go_wp2
    go_ret
    exact ⟨rfl, Below.refl _ _⟩
  have i1 : ¬ (1048576 : Int) < (n : Int) := by omega
  by_cases hle' : 1048576 < n'
  · have i2 : (1048576 : Int) < (n' : Int) := by omega
    clear hle'
    go_enter Try.func3, Try.ntmps3
    go_wp2
    go_ret
    exact ⟨rfl, Below.refl _ _⟩
  have i2 : ¬ (1048576 : Int) < (n' : Int) := by omega
  have HD := Lib.hid (rtcDrawn A n c zs w (by unfold maxLen; omega) hl h)
  have HA0 : Hid (∀ W, Below w.heap.size w W → Calls Try.prog 17 #[.slice A' n' c', .int .i64 0, .int .i64 24] W fun e w' => e = .returned (.int .i64 (atOf zs' 0 24 : Nat)) ∧ Below W.heap.size W w') := Lib.hid (fun W hb => lawAtE 0 24 A' n' c' zs' W (by omega) (by omega) (by omega) (by omega) hl' (h'.step hb))
  have HA1 : Hid (∀ W, Below w.heap.size w W → Calls Try.prog 17 #[.slice A' n' c', .int .i64 1, .int .i64 60] W fun e w' => e = .returned (.int .i64 (atOf zs' 1 60 : Nat)) ∧ Below W.heap.size W w') := Lib.hid (fun W hb => lawAtE 1 60 A' n' c' zs' W (by omega) (by omega) (by omega) (by omega) hl' (h'.step hb))
  have hN := atOf_lt zs' 0 24 (by omega)
  have hK := atOf_lt zs' 1 60 (by omega)
  generalize atOf zs' 0 24 = HN at HA0 hN
  generalize atOf zs' 1 60 = MN at HA1 hK
  have HHr : Hid ((0 ≤ (HN : Int) ∧ (HN : Int) ≤ 23) ∧ 0 ≤ (MN : Int) ∧ (MN : Int) ≤ 59) := Lib.hid (by omega)
  unfold GivesClock at HD
  clear hl hl' hn hn' h h' hle hle' hN hK
  go_enter Try.func3, Try.ntmps3
  go_wp2_with fail
  refine HD.out.mono ?_
  rintro e w1 ⟨d0, d1, d2, d3, d4, d5, rfl, HQ, hb1⟩
  have HTI := Lib.hid (fun W => implTickT d0 d1 d2 d3 d4 d5 HQ.out W)
  have HTS := Lib.hid (fun W => specTickT d0 d1 d2 d3 d4 d5 HQ.out W)
  have HXI := Lib.hid (fun W => implTextT _ _ _ d3 d4 d5 (rtcB_nxt HQ.out) W)
  have HXS := Lib.hid (fun W => specTextT _ _ _ d3 d4 d5 (rtcB_nxt HQ.out) W)
  have HOK := Lib.hid (fun W => implOkT _ _ _ d3 d4 d5 (rtcB_nxt HQ.out) W)
  generalize ringB (nxt d0 d1 d2).s (nxt d0 d1 d2).m (nxt d0 d1 d2).h d3 d4 d5 = rb at HTI HTS
  generalize nxt d0 d1 d2 = r at HTI HTS HXI HXS HOK
  obtain ⟨rs, rm, rh⟩ := r
  simp only at HTI HTS HXI HXS HOK
  generalize txt rh rm rs = tx at HXI HXS
  have qb : (rb != rb) = false := by simp
  have qt2 : (tx.toList != tx.toList) = false := by simp
  clear HD HQ
  obtain ⟨W1, hW1⟩ : ∃ W1, W1 = w1.alloc (.cells #[.int .i64 d0, .int .i64 d1, .int .i64 d2, .bool d3, .int .i64 d4, .int .i64 d5] 24) := ⟨_, rfl⟩
  have X2 : Hid (Box W1 w1.heap.size 24 #[.int .i64 d0, .int .i64 d1, .int .i64 d2, .bool d3, .int .i64 d4, .int .i64 d5]) := Lib.hid (by rw [hW1]; exact Box.new _ _ _)
  have hb3 : Below w.heap.size w W1 := by rw [hW1]; exact bt hb1 (alloc_below _ _)
  clear hb1
  go_wp2_with fail
  rw [← hW1]
  clear hW1
  refine (HTI.out _).mono ?_
  rintro e W4 ⟨rfl, hc5⟩
  have X6 := Lib.hid (X2.out.step hc5)
  have hb7 := bt hb3 hc5
  clear X2 hb3 hc5
  clear HTI
  obtain ⟨W8, hW8⟩ : ∃ W8, W8 = W4.alloc (.cells #[.int .i64 rs, .int .i64 rm, .int .i64 rh, .bool d3, .int .i64 d4, .int .i64 d5] 24) := ⟨_, rfl⟩
  have X9 := Lib.hid (X6.out.step (show Below _ _ W8 by rw [hW8]; exact alloc_below _ _))
  have X10 : Hid (Box W8 W4.heap.size 24 #[.int .i64 rs, .int .i64 rm, .int .i64 rh, .bool d3, .int .i64 d4, .int .i64 d5]) := Lib.hid (by rw [hW8]; exact Box.new _ _ _)
  have hb11 : Below w.heap.size w W8 := by rw [hW8]; exact bt hb7 (alloc_below _ _)
  clear X6 hb7
  have f12 := X9.out.cell 0 rfl
  have f13 := X9.out.cell 1 rfl
  have f14 := X9.out.cell 2 rfl
  have f15 := X9.out.cell 3 rfl
  have f16 := X9.out.cell 4 rfl
  have f17 := X9.out.cell 5 rfl
  rw [hW8] at f12 f13 f14 f15 f16 f17
  go_wp2_with fail
  rw [← hW8]
  clear hW8
  clear f12 f13 f14 f15 f16 f17
  refine (HTS.out _).mono ?_
  rintro e W18 ⟨rfl, hc19⟩
  have X20 := Lib.hid (X9.out.step hc19)
  have X21 := Lib.hid (X10.out.step hc19)
  have hb22 := bt hb11 hc19
  clear X9 X10 hb11 hc19
  clear HTS
  obtain ⟨W23, hW23⟩ : ∃ W23, W23 = W18.alloc (.cells #[.int .i64 rs, .int .i64 rm, .int .i64 rh, .bool d3, .int .i64 d4, .int .i64 d5] 24) := ⟨_, rfl⟩
  have X24 := Lib.hid (X20.out.step (show Below _ _ W23 by rw [hW23]; exact alloc_below _ _))
  have X25 := Lib.hid (X21.out.step (show Below _ _ W23 by rw [hW23]; exact alloc_below _ _))
  have X26 : Hid (Box W23 W18.heap.size 24 #[.int .i64 rs, .int .i64 rm, .int .i64 rh, .bool d3, .int .i64 d4, .int .i64 d5]) := Lib.hid (by rw [hW23]; exact Box.new _ _ _)
  have hb27 : Below w.heap.size w W23 := by rw [hW23]; exact bt hb22 (alloc_below _ _)
  clear X20 X21 hb22
  have f28 := X25.out.cell 0 rfl
  have f29 := X25.out.cell 1 rfl
  have f30 := X25.out.cell 2 rfl
  have f31 := X25.out.cell 3 rfl
  have f32 := X25.out.cell 4 rfl
  have f33 := X25.out.cell 5 rfl
  rw [hW23] at f28 f29 f30 f31 f32 f33
  go_wp2_with fail
  rw [← hW23]
  clear hW23
  clear f28 f29 f30 f31 f32 f33
  refine (HXI.out _).mono ?_
  rintro e W34 ⟨rfl, hc35⟩
  have X36 := Lib.hid (X24.out.step hc35)
  have X37 := Lib.hid (X25.out.step hc35)
  have X38 := Lib.hid (X26.out.step hc35)
  have hb39 := bt hb27 hc35
  clear X24 X25 X26 hb27 hc35
  clear HXI
  have f40 := X37.out.cell 0 rfl
  have f41 := X37.out.cell 1 rfl
  have f42 := X37.out.cell 2 rfl
  have f43 := X37.out.cell 3 rfl
  have f44 := X37.out.cell 4 rfl
  have f45 := X37.out.cell 5 rfl
  go_wp2_with fail
  clear f40 f41 f42 f43 f44 f45
  refine (HXS.out _).mono ?_
  rintro e W46 ⟨rfl, hc47⟩
  have X48 := Lib.hid (X36.out.step hc47)
  have X49 := Lib.hid (X37.out.step hc47)
  have X50 := Lib.hid (X38.out.step hc47)
  have hb51 := bt hb39 hc47
  clear X36 X37 X38 hb39 hc47
  clear HXS
  have f52 := X49.out.cell 0 rfl
  have f53 := X49.out.cell 1 rfl
  have f54 := X49.out.cell 2 rfl
  have f55 := X49.out.cell 3 rfl
  have f56 := X49.out.cell 4 rfl
  have f57 := X49.out.cell 5 rfl
  have f58 := X50.out.cell 0 rfl
  have f59 := X50.out.cell 1 rfl
  have f60 := X50.out.cell 2 rfl
  have f61 := X50.out.cell 3 rfl
  have f62 := X50.out.cell 4 rfl
  have f63 := X50.out.cell 5 rfl
  go_wp2_with fail
  clear f52 f53 f54 f55 f56 f57 f58 f59 f60 f61 f62 f63
  refine (HOK.out _).mono ?_
  rintro e W64 ⟨rfl, hc65⟩
  have X66 := Lib.hid (X48.out.step hc65)
  have X67 := Lib.hid (X49.out.step hc65)
  have X68 := Lib.hid (X50.out.step hc65)
  have hb69 := bt hb51 hc65
  clear X48 X49 X50 hb51 hc65
  clear HOK qb qt2
  go_wp2_with fail
  refine (HA0.out _ hb69).mono ?_
  rintro e W70 ⟨rfl, hc71⟩
  have hb72 := bt hb69 hc71
  clear hb69 hc71
  go_wp2_with fail
  refine (HA1.out _ hb72).mono ?_
  rintro e W73 ⟨rfl, hc74⟩
  have hb75 := bt hb72 hc74
  clear hb72 hc74
  clear HA0 HA1
  have HS1 := Lib.hid (fun W => implSetT 58 (MN : Int) (HN : Int) (momR_59 HHr.out.1 HHr.out.2 (by omega)) (HN : Int) (MN : Int) HHr.out.1 HHr.out.2 W)
  go_wp2_with fail
  refine (HS1.out _).mono ?_
  rintro e W76 ⟨rfl, hc77⟩
  have hb78 := bt hb75 hc77
  clear hb75 hc77
  clear HS1
  have HZw := Lib.hid (show w.heap.size ≤ W76.heap.size from hb78.size)
  obtain ⟨W79, hW79⟩ : ∃ W79, W79 = W76.alloc (.cells #[.int .i64 58, .int .i64 MN, .int .i64 HN, .bool true, .int .i64 MN, .int .i64 HN] 24) := ⟨_, rfl⟩
  have X80 : Hid (Box W79 W76.heap.size 24 #[.int .i64 58, .int .i64 MN, .int .i64 HN, .bool true, .int .i64 MN, .int .i64 HN]) := Lib.hid (by rw [hW79]; exact Box.new _ _ _)
  have hb81 : Below w.heap.size w W79 := by rw [hW79]; exact bt hb78 (alloc_below _ _)
  clear hb78
  have HB0 := Lib.hid hb81
  have HD0 := Lib.hid X80.out.lt
  clear hb81
  have HE0 : Hid (((HN : Int) * 60 + MN) * 60 + 58 = (((HN : Int) * 60 + MN) * 60 + 58 + (0 : Nat)) % 86400) := Lib.hid (by have := HHr.out; omega)
  have HZ0 := Lib.hid (show w.heap.size ≤ W76.heap.size from (Nat.le_trans (Nat.le_refl _) (HZw.out)))
  go_wp2
  rw [← hW79]
  clear hW79
  obtain ⟨D, hD⟩ : ∃ D, D = W76.heap.size := ⟨_, rfl⟩
  rw [← hD] at X80 HD0 HZ0 ⊢
  clear hD
  go_loopw [20, 21] (fun nn i wr => nn = .int .i64 0 ∧ ∃ j : Nat, j ≤ 70 ∧ i = .int .i64 (j : Int) ∧ Hid (∃ s m h' : Int, MomR s m h' ∧ (h' * 60 + m) * 60 + s = (((HN : Int) * 60 + MN) * 60 + 58 + j) % 86400 ∧ Box wr D 24 #[.int .i64 s, .int .i64 m, .int .i64 h', .bool true, .int .i64 MN, .int .i64 HN]) ∧ Hid (Below w.heap.size w wr)) (fun _ i _ => 70 - (intOf i).toNat)
  case atStart => exact ⟨rfl, 0, by omega, rfl, Lib.hid ⟨58, MN, HN, momR_59 HHr.out.1 HHr.out.2 (by omega), HE0.out, X80.out⟩, HB0⟩
  case round =>
    clear HE0 HB0 HD0 X80
    obtain ⟨rfl, j, hj, rfl, HI, HB⟩ := hrel
    by_cases hlt : j < 70
    · obtain ⟨s, m, h', hq, he, X⟩ := HI.out
      obtain ⟨r1, r2⟩ := ring_no (k := (j : Int)) hq he (by omega)
      have HT := Lib.hid (fun W => implTickT s m h' true (MN : Int) (HN : Int) (rtcB_mk hq HHr.out.2 HHr.out.1) W)
      have HQ2 := Lib.hid (nxt_ok hq)
      rw [r1] at HT
      generalize nxt s m h' = r at HT HQ2 r2
      obtain ⟨rs, rm, rh⟩ := r
      simp only at HT HQ2 r2
      have HR2 := Lib.hid r2
      have X1 := Lib.hid X
      have hjl : (j : Int) < 70 := by omega
      clear HI r1 r2 he hq X
      have s0 := X1.out.cell 0 rfl; have s1 := X1.out.cell 1 rfl; have s2 := X1.out.cell 2 rfl; have s3 := X1.out.cell 3 rfl; have s4 := X1.out.cell 4 rfl; have s5 := X1.out.cell 5 rfl
      go_wp2_with fail
      refine (HT.out _).mono ?_
      rintro e w2 ⟨rfl, hc2⟩
      obtain ⟨W3, hW3⟩ : ∃ W3, W3 = w2.alloc (.cells #[.int .i64 rs, .int .i64 rm, .int .i64 rh, .bool true, .int .i64 MN, .int .i64 HN] 24) := ⟨_, rfl⟩
      have hc3 : Below wr.heap.size wr W3 := by rw [hW3]; exact bt hc2 (alloc_below _ _)
      have X3 := Lib.hid (X1.out.step hc3)
      have HB3 := Lib.hid (bt HB.out hc3)
      clear HT hc2 hc3 X1 HB s0 s1 s2 s3 s4 s5
      have s0 := X3.out.cell 0 rfl; have s1 := X3.out.cell 1 rfl; have s2 := X3.out.cell 2 rfl; have s3 := X3.out.cell 3 rfl; have s4 := X3.out.cell 4 rfl; have s5 := X3.out.cell 5 rfl; have sz0 := X3.out.frozen 0; have sz1 := X3.out.frozen 1; have sz2 := X3.out.frozen 2; have sz3 := X3.out.frozen 3; have sz4 := X3.out.frozen 4; have sz5 := X3.out.frozen 5
      rw [hW3] at s0 s1 s2 s3 s4 s5 sz0 sz1 sz2 sz3 sz4 sz5
      go_wp2
      rw [← hW3]
      obtain ⟨W4, hW4⟩ : ∃ W4, W4 = ((((((W3.setCell ⟨D, 0, none⟩ (.int .i64 rs)).setCell ⟨D, 1, none⟩ (.int .i64 rm)).setCell ⟨D, 2, none⟩ (.int .i64 rh)).setCell ⟨D, 3, none⟩ (.bool true)).setCell ⟨D, 4, none⟩ (.int .i64 MN)).setCell ⟨D, 5, none⟩ (.int .i64 HN)) := ⟨_, rfl⟩
      have B4 : Btw D (D + 1) W3 W4 := by rw [hW4]; exact (Btw.refl _ _ _).put.put.put.put.put.put
      have X4 : Hid (Box W4 D 24 #[.int .i64 rs, .int .i64 rm, .int .i64 rh, .bool true, .int .i64 MN, .int .i64 HN]) := Lib.hid (by rw [hW4]; exact (X3.out.all6 rfl _ _ _ _ _ _))
      have HB4 := Lib.hid (HB3.out.trans ((B4.below (Nat.le_of_lt X3.out.lt)).mono HZ0.out))
      rw [← hW4]
      clear s0 s1 s2 s3 s4 s5 sz0 sz1 sz2 sz3 sz4 sz5 hW4 B4 hW3 X3 HB3
      go_roundw
      case rel => exact ⟨rfl, j + 1, by omega, by go_num, Lib.hid ⟨rs, rm, rh, HQ2.out, by rw [HR2.out]; congr 2, X4.out⟩, HB4⟩
      case measure => simp [intOf]; omega
    · obtain rfl : j = 70 := by omega
      clear HI hlt hj
      have e1 : IntKind.i64.wrap ((MN : Int) + 1) = (MN : Int) + 1 := IntWalk.i64_in _ (by have := HHr.out; omega)
      have e2 : ((MN : Int) + 1).tdiv 60 = ((MN : Int) + 1) / 60 := Int.tdiv_eq_ediv_of_nonneg (by omega)
      have e3 : IntKind.i64.wrap (((MN : Int) + 1) / 60) = ((MN : Int) + 1) / 60 := IntWalk.i64_in _ (by have := HHr.out; omega)
      have e4 : IntKind.i64.wrap ((HN : Int) + ((MN : Int) + 1) / 60) = (HN : Int) + ((MN : Int) + 1) / 60 := IntWalk.i64_in _ (by have := HHr.out; omega)
      have e5 : ((HN : Int) + ((MN : Int) + 1) / 60).tmod 24 = ((HN : Int) + ((MN : Int) + 1) / 60) % 24 := Int.tmod_eq_emod_of_nonneg (by omega)
      have e6 : ((MN : Int) + 1).tmod 60 = ((MN : Int) + 1) % 60 := Int.tmod_eq_emod_of_nonneg (by omega)
      have HY := Lib.hid (ring_yes HHr.out.1 HHr.out.2)
      have hq := momR_59 (s := 59) HHr.out.1 HHr.out.2 (by omega)
      have b1 : 0 ≤ ((MN : Int) + 1) % 60 ∧ ((MN : Int) + 1) % 60 ≤ 59 := by omega
      have b2 : 0 ≤ ((HN : Int) + ((MN : Int) + 1) / 60) % 24 ∧ ((HN : Int) + ((MN : Int) + 1) / 60) % 24 ≤ 23 := by omega
      generalize ((MN : Int) + 1) % 60 = m' at e6 HY b1
      generalize ((HN : Int) + ((MN : Int) + 1) / 60) % 24 = h' at e5 HY b2
      have HS := Lib.hid (fun W => implSetT 59 (MN : Int) (HN : Int) hq h' m' b2 b1 W)
      have HT := Lib.hid (fun W => implTickT 59 (MN : Int) (HN : Int) true m' h' (rtcB_mk hq b1 b2) W)
      rw [HY.out] at HT
      generalize nxt 59 (MN : Int) (HN : Int) = r at HT
      obtain ⟨rs, rm, rh⟩ := r
      simp only at HT
      clear HY hq b1 b2 HZ0
      go_wp2_with fail
      refine (HS.out _).mono ?_
      rintro e w5 ⟨rfl, hc5⟩
      go_wp2_with fail
      refine (HT.out _).mono ?_
      rintro e w6 ⟨rfl, hc6⟩
      have HBf := bt (bt (bt HB.out hc5) (alloc_below w5 _)) hc6
      go_wp2
      go_ret
      exact ⟨rfl, bt HBf (alloc_below w6 _)⟩
end Go.Proofs.Ytophgbjbinaekaa
