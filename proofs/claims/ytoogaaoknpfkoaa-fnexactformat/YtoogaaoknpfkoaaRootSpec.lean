/- The contract of spec.RootOK. -/
import Derived.Test.YtoogaaoknpfkoaaRootOk
import Derived.Deep.QuietTactic
import Derived.BigQuiet
namespace Go.Proofs.Ytoogaaoknpfkoaa
open Go.RowKit

theorem quiet_same {P : Program} {f : FuncId} {args : Array Value} {w : World} {n : Nat} {v : Value}
    (h : Calls P f args (w.drewN n) fun e w' => e = .returned v ∧ w.drewN n = w') : Calls P f args (w.drewN n) fun e w'' => e = .returned v ∧ ∃ m, w'' = w.drewN m :=
  h.mono fun _ _ ⟨he, hm⟩ => ⟨he, n, hm.symm⟩

set_option maxRecDepth 100000 in
set_option maxHeartbeats 2000000 in
theorem specRootOK (g : Int) (A : Option Addr) (n c : Nat) (zs : List Int) (w : World) (hl : zs.length = n) (_hn : n ≤ maxLen) (hcap : n ≤ c) (h : IntL w A zs) :
    Calls Try.prog 43 #[.agg #[.int .i64 g, .slice A n c]] w fun e w' => e = .returned (.bool (rootB g zs)) ∧ Below w.heap.size w w' := by
  have hb0 := alloc_below w (.cells #[.int .i64 g, .slice A n c] 57)
  by_cases h1 : inB 1 999999 g = true
  · have hg : 1 ≤ g ∧ g ≤ 999999 := by unfold inB at h1; simpa using h1
    have HI := Lib.hid h1
    by_cases h2 : n = 17
    · have HV := Lib.hid (rootB_yes (zs := zs) hg (hl.trans h2))
      have HL := Lib.hid hl
      have H := Lib.hid (h.below hb0)
      have X := Box.new w 57 #[.int .i64 g, .slice A n c]
      have q3 : ((n : Int) != 17) = false := by rw [h2]; rfl
      have q4 : n ≤ 17 := by omega
      have q5 : (n : Int) ≤ (c : Int) := by omega
      clear h hl h1 hg h2
      go_enter Try.func43, Try.ntmps43
      go_wp2_with fail
      refine (l01InG _ _ _ _).mono ?_
      rintro e w' ⟨rfl, rfl⟩
      rw [HI.out]
      go_wp2
      have F1 := Lib.hid (X.cell 1 rfl)
      generalize w.alloc (.cells #[.int .i64 g, .slice A n c] 57) = wa at hb0 H F1 ⊢
      go_loopw [3] (fun i wr => ∃ k : Nat, k ≤ n ∧ i = .int .i64 k ∧ Hid (goodK zs k = true) ∧ Below w.heap.size w wr ∧ Hid (IntL wr A zs) ∧ Hid (wr.cell? ⟨w.heap.size, 1, none⟩ = some (.slice A n c))) (fun i _ => n - (intOf i).toNat)
      case atStart => exact ⟨0, Nat.zero_le _, rfl, Lib.hid rfl, hb0, H, F1⟩
      case round =>
        clear F1 H hb0
        obtain ⟨k, hk, rfl, HT, hb0, H, F1⟩ := hrel
        have f1 := F1.out
        by_cases hlt : k < n
        · obtain ⟨b, off, rfl, hc⟩ := H.out k (by rw [HL.out]; exact hlt)
          have HS := Lib.hid (goodK_step zs k (by rw [HL.out]; exact hlt))
          have HIn := Lib.hid (fun W (hW : ∃ nq, W = wr.drewN nq) => l02In (some ⟨b, off, none⟩) k c (zs.take k) (zs.getD k 0) W (by rw [List.length_take, HL.out]; omega) (by unfold maxLen; omega) (by obtain ⟨nq, rfl⟩ := hW; exact take_reads H.out k))
          generalize zs.getD k 0 = z at hc HS HIn
          have hi : (k : Int) < (n : Int) := by omega
          have hi0 : (0 : Int) ≤ (k : Int) := by omega
          have hic : (k : Int) ≤ (c : Int) := by omega
          by_cases hE : pageB z = true
          · have HP := Lib.hid (fun W => l02Page z W)
            generalize hp : pageB z = pz at HP hE
            have HPz := Lib.hid hp
            subst hE
            clear hp
            by_cases hM : z ∈ zs.take k
            · have HM := Lib.hid hM
              generalize hd : decide (z ∈ zs.take k) = dz at HIn HS
              have HD : Hid (dz = true) := Lib.hid (by rw [← hd]; simpa using hM)
              rw [HD.out] at HIn
              clear hM hd
              go_wp2
              go_quiet (first | (go_at_call 98; exact quiet_same (HP.out _)) | (go_at_call 99; exact quiet_same (HIn.out _ ⟨_, rfl⟩)))
              go_wp2
              go_ret
              exact ⟨ret_bool (by rw [HV.out]; exact (goodK_no zs (k + 1) (by rw [HS.out, HD.out]; simp)).symm), below_drewN hb0 _⟩
            · have HM := Lib.hid hM
              generalize hd : decide (z ∈ zs.take k) = dz at HIn HS
              have HD : Hid (dz = false) := Lib.hid (by rw [← hd]; simpa using hM)
              rw [HD.out] at HIn
              clear hM hd
              go_wp2
              go_quiet (first | (go_at_call 98; exact quiet_same (HP.out _)) | (go_at_call 99; exact quiet_same (HIn.out _ ⟨_, rfl⟩)))
              go_wp2
              go_roundw
              case rel => exact ⟨k + 1, by omega, by go_num, Lib.hid (by rw [HS.out, HD.out, HPz.out, HT.out]; rfl), below_drewN hb0 _, Lib.hid H.out, Lib.hid F1.out⟩
              case measure => simp [intOf]; omega
          · have hE' : pageB z = false := by simpa using hE
            have HP := Lib.hid (fun W => l02Page z W)
            rw [hE'] at HP
            have HE := Lib.hid hE'
            clear hE hE' HIn
            go_wp2
            go_quiet (first | (go_at_call 98; exact quiet_same (HP.out _)))
            go_wp2
            go_ret
            exact ⟨ret_bool (by rw [HV.out]; exact (goodK_no zs (k + 1) (by rw [HS.out, HE.out]; simp)).symm), below_drewN hb0 _⟩
        · go_wp2
          go_ret
          exact ⟨ret_bool (by rw [HV.out, ← goodK_all zs k (by rw [HL.out]; omega), HT.out]), hb0⟩
    · have HV := Lib.hid (rootB_no (g := g) (zs := zs) (.inr (by omega)))
      have q3 : ((n : Int) != 17) = true := by simp; omega
      clear h hl h1 hg
      go_enter Try.func43, Try.ntmps43
      go_wp2_with fail
      refine (l01InG _ _ _ _).mono ?_
      rintro e w' ⟨rfl, rfl⟩
      rw [HI.out]
      go_wp2
      go_ret
      exact ⟨ret_bool HV.out.symm, hb0⟩
  · have HV := Lib.hid (rootB_no (g := g) (zs := zs) (.inl (by unfold inB at h1; simpa using h1)))
    have HI : Hid (inB 1 999999 g = false) := Lib.hid (by simpa using h1)
    clear h hl h1
    go_enter Try.func43, Try.ntmps43
    go_wp2_with fail
    refine (l01InG _ _ _ _).mono ?_
    rintro e w' ⟨rfl, rfl⟩
    rw [HI.out]
    go_wp2
    go_ret
    exact ⟨ret_bool HV.out.symm, hb0⟩
end Go.Proofs.Ytoogaaoknpfkoaa
