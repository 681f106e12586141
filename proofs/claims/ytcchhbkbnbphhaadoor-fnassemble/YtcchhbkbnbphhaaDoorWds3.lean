/- The words of a text: the program's first four, the model's all. -/
import Derived.Test.YtcchhbkbnbphhaaDoorWds2
import Derived.Test.YtcchhbkbnbphhaaDoorM2
namespace Go.Proofs.YtcchhbkbnbphhaaDoor
open Go.RowKit

def GivesW (ss : List ByteArray) (w : World) (e : Ending) (w' : World) : Prop := ∃ A n c, e = .returned (.slice A n c) ∧ ss.length = n ∧ Hid (OwnS w' w.heap.size w'.heap.size A ss) ∧ Below w.heap.size w w'
def strLen : Value → Nat
  | .string s => s.size
  | _ => 0
def trimW (s : ByteArray) : ByteArray := ⟨(Lib.trimLeftB s.data.toList 32).toArray⟩
theorem trimW_words (s : ByteArray) : wordsB (trimW s) = wordsB s := by
  unfold wordsB trimW Lib.trimLeftB
  show (wordsA [] (s.data.toList.dropWhile (· == 32))).map bs = _
  rw [wordsA_trim]
theorem trimW_size (s : ByteArray) : (trimW s).size ≤ s.size := by
  unfold trimW Lib.trimLeftB
  show ((s.data.toList.dropWhile (· == 32)).toArray).size ≤ _
  rw [List.size_toArray]
  exact Nat.le_trans (List.dropWhile_sublist _).length_le (by simp)
theorem trimW_head (s : ByteArray) : ∀ c r, (trimW s).data.toList = c :: r → c ≠ 32 := by
  intro c r h e
  unfold trimW Lib.trimLeftB at h
  have h : s.data.toList.dropWhile (· == 32) = c :: r := h
  have := List.head?_dropWhile_not (· == 32) s.data.toList
  rw [h] at this
  simp [e] at this

set_option maxRecDepth 100000 in
set_option maxHeartbeats 4000000 in
theorem firstWords (s : ByteArray) (w : World) (hs : s.size ≤ maxLen) : Calls Tryd.prog 51 #[.string s, .int .i64 4] w (GivesW ((wordsB s).take 4) w) := by
  have hs2 := hs
  unfold maxLen at hs2
  generalize hR : (wordsB s).take 4 = R
  have HR := Lib.hid hR
  clear hR
  go_enter Tryd.func51, Tryd.ntmps51
  go_wp2
  go_loopw [5, 0] (fun u v wr => ∃ (n : Nat) (A : Option Addr) (c : Nat) (t : ByteArray) (outs : List ByteArray), n ≤ 4 ∧ u = .slice A n c ∧ v = .string t ∧ t.size ≤ s.size ∧ Hid (outs.length = n) ∧ Hid (GroS wr w.heap.size (.slice A n c) outs) ∧ Hid (R = (outs ++ wordsB t).take 4) ∧ Hid (Below w.heap.size w wr)) (fun _ v _ => strLen v)
  case atStart => exact ⟨0, none, 0, s, [], by omega, rfl, rfl, Nat.le_refl _, Lib.hid rfl, Lib.hid (rowv_nil _ _ _ _), Lib.hid HR.out.symm, Lib.hid (Below.refl _ _)⟩
  case round =>
    clear HR
    obtain ⟨n, A, c, t, outs, hn, rfl, rfl, ht, HL, HG, HR, HB⟩ := hrel
    by_cases h4 : n < 4
    · have hi : (n : Int) < 4 := by omega
      have HT := Lib.hid (fun W => Tryd.strings_TrimLeft_one t 32 (by decide) W)
      have HTW := Lib.hid (trimW_words t)
      have hts := trimW_size t
      have HTH := Lib.hid (trimW_head t)
      rw [show (⟨(Lib.trimLeftB t.data.toList 32).toArray⟩ : ByteArray) = trimW t from rfl] at HT
      generalize trimW t = tr at HT HTW hts HTH
      by_cases he : tr.data.toList = []
      · have h1 : (tr.toList == []) = true := by rw [ByteArray.toList_eq, he]; rfl
        have h2 : tr.toList = [] := by rw [ByteArray.toList_eq, he]
        go_wp2_with (go_at_call 60; refine (HT.out _).mono ?_; rintro e w' ⟨rfl, rfl⟩)
        have HF : Hid (R = outs) := Lib.hid (by
          have e : wordsB tr = [] := by unfold wordsB; rw [he]; rfl
          rw [HR.out, ← HTW.out, e, List.append_nil]
          exact List.take_of_length_le (by rw [HL.out]; omega))
        go_ret
        exact ⟨A, n, c, rfl, by rw [HF.out]; exact HL.out, Lib.hid (by rw [HF.out]; exact HG.out.own (Nat.le_refl _)), HB.out⟩
      · have h1 : (tr.toList == []) = false := by rw [ByteArray.toList_eq]; simpa using he
        have h2 : ¬ tr.toList = [] := by rw [ByteArray.toList_eq]; exact he
        have h3 : tr.toList.isEmpty = false := by rw [ByteArray.toList_eq]; simpa using he
        obtain ⟨k1, k2, k3⟩ := cut_words tr he HTH.out
        have HK := Lib.hid k1
        have HC := Lib.hid (fun W => cutS tr W (Nat.le_trans hts (Nat.le_trans ht hs)))
        generalize cutW tr = cw at HK k2 k3 HC
        obtain ⟨wd, rest, fd⟩ := cw
        have HRk : Hid (wr.ownsRow w.heap.size 9 1 (.slice A n c) n (outs.map Value.string)) := Lib.hid (by have := HG.out; unfold GroS at this; rwa [HL.out] at this)
        have hsz : rest.size < tr.size := k2
        clear HTH k1 k2 k3 he HG
        go_wp2_with (first | (go_at_call 60; refine (HT.out _).mono ?_; rintro e w' ⟨rfl, rfl⟩))
        refine (HC.out _).mono ?_
        rintro e w1 ⟨rfl, hb⟩
        have HB1 := Lib.hid (bt HB.out hb)
        have HR1 := Lib.hid (rowv_below HRk.out hb)
        clear hb HB HRk h1 h2 h3
        have HBa : Hid (Below w1.heap.size w1 (w1.alloc (.cells #[.string wd] 9))) := Lib.hid (alloc_below _ _)
        have HOw := Lib.hid (rowv_below HR1.out HBa.out)
        have HNw : Hid (∀ i u, [Value.string wd][i]? = some u → (w1.alloc (.cells #[.string wd] 9)).cell? ⟨w1.heap.size, i, none⟩ = some u) := Lib.hid (fun i u hi => by
          match i, hi with
          | 0, hi => simp at hi; subst hi; exact (Box.new w1 9 #[.string wd]).cell 0 rfl)
        have hsw : w.heap.size ≤ w1.heap.size := HB1.out.size
        go_wp2_with (at_builtin; refine wpList_app_one rfl (.tmp 23) (.tmp 25) 40 9 rfl (.string ByteArray.empty) 1 16 elemStr Tryd.underlying40 w.heap.size (.slice A n c) n (outs.map Value.string) rfl ?_ w1.heap.size 1 rfl [.string wd] rfl ?_ ?_ ?_ ?_ ?_ ?_)
        any_goals first | rfl | exact HOw.out | exact HNw.out | (intro u hu; simp at hu; subst hu; rfl) | (unfold maxLen; omega) | omega | (simp; done) | (simp; omega)
        intro A2 c2 w2 hR2 hc2 hg2 hb2
        have HR2 := Lib.hid hR2
        have HB2 := Lib.hid ((bt HB1.out HBa.out).trans (hb2.mono (Nat.le_refl _)))
        clear hR2 hb2 hg2
        go_wp2
        go_roundw
        case rel =>
          refine ⟨n + 1, A2, c2, rest, outs ++ [wd], by omega, rfl, rfl, by omega, Lib.hid (by rw [List.length_append, HL.out]; rfl), Lib.hid ?_, Lib.hid (by rw [HR.out, ← HTW.out, HK.out, List.append_assoc]; rfl), HB2⟩
          unfold GroS; rw [List.length_append, HL.out, List.map_append]; exact HR2.out
        case measure => simp [strLen]; omega
    · obtain rfl : n = 4 := by omega
      have HF : Hid (R = outs) := Lib.hid (by rw [HR.out, List.take_append_of_le_length (by rw [HL.out]; omega)]; exact List.take_of_length_le (by rw [HL.out]; omega))
      go_wp2
      go_ret
      exact ⟨A, 4, c, rfl, by rw [HF.out]; exact HL.out, Lib.hid (by rw [HF.out]; exact HG.out.own (Nat.le_refl _)), HB.out⟩
end Go.Proofs.YtcchhbkbnbphhaaDoor
