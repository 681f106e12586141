/- The words of a text, the model's. Written by gen_wds4.py. -/
import Derived.Test.YtoaeofahknknhaaDoorWds3
namespace Go.Proofs.YtoaeofahknknhaaDoor
open Go.RowKit

/-- The part of a text from f to k. -/
def partW (s : ByteArray) (f k : Nat) : List UInt8 := (s.data.toList.drop f).take (k - f)
theorem partW_ext (s : ByteArray) (f k : Nat) : bs (partW s f k) = s.extract f k := by
  apply ByteArray.ext
  apply Array.ext'
  rw [bs_toList, ext_list]
  rfl
theorem partW_nil (s : ByteArray) (f : Nat) : partW s f f = [] := by unfold partW; simp
theorem partW_ne (s : ByteArray) (f k : Nat) (h : f < k) (hk : k ≤ s.size) : partW s f k ≠ [] := by
  intro e
  have hs : s.data.toList.length = s.size := by simp
  have := congrArg List.length e
  unfold partW at this
  rw [List.length_take, List.length_drop, hs] at this
  simp only [List.length_nil] at this
  omega
theorem partW_step (s : ByteArray) (f k : Nat) (h : f ≤ k) (hk : k < s.size) : partW s f (k + 1) = partW s f k ++ [s[k]] := by
  have hs : s.data.toList.length = s.size := by simp
  unfold partW
  rw [show k + 1 - f = (k - f) + 1 from by omega, List.take_succ_eq_append_getElem (by rw [List.length_drop, hs]; omega), List.getElem_drop]
  congr 2
  show s.data.toList[f + (k - f)]'_ = s[k]
  simp only [show f + (k - f) = k from by omega]
  rfl
theorem drop_at (s : ByteArray) (k : Nat) (hk : k < s.size) : s.data.toList.drop k = s[k] :: s.data.toList.drop (k + 1) := by
  rw [List.drop_eq_getElem_cons (by simpa using hk)]; rfl
/-- What is still to come. -/
def toCome (s : ByteArray) (f k : Nat) : List ByteArray := (wordsA (partW s f k) (s.data.toList.drop k)).map bs
theorem come_start (s : ByteArray) : toCome s 0 0 = wordsB s := by unfold toCome wordsB; rw [partW_nil]; rfl
theorem come_end1 (s : ByteArray) (f : Nat) (h : f < s.size) : toCome s f s.size = [s.extract f s.size] := by
  unfold toCome
  rw [List.drop_of_length_le (by simp)]
  unfold wordsA
  rw [if_neg (partW_ne s f _ h (Nat.le_refl _)), ← partW_ext]
  rfl
theorem come_end2 (s : ByteArray) : toCome s s.size s.size = [] := by
  unfold toCome
  rw [List.drop_of_length_le (by simp), partW_nil]
  rfl
theorem come_sep1 (s : ByteArray) (f k : Nat) (h : f < k) (hk : k < s.size) (hc : s[k] = 32) : toCome s f k = s.extract f k :: toCome s (k + 1) (k + 1) := by
  unfold toCome
  rw [drop_at s k hk, wordsA, if_pos hc, if_neg (partW_ne s f k h (by omega)), List.map_cons, partW_ext, partW_nil]
theorem come_sep2 (s : ByteArray) (k : Nat) (hk : k < s.size) (hc : s[k] = 32) : toCome s k k = toCome s (k + 1) (k + 1) := by
  unfold toCome
  rw [drop_at s k hk, partW_nil, wordsA, if_pos hc, if_pos rfl, partW_nil]
theorem come_in (s : ByteArray) (f k : Nat) (h : f ≤ k) (hk : k < s.size) (hc : s[k] ≠ 32) : toCome s f k = toCome s f (k + 1) := by
  unfold toCome
  rw [drop_at s k hk, wordsA, if_neg hc, partW_step s f k h hk]

set_option maxRecDepth 100000 in
set_option maxHeartbeats 8000000 in
theorem l00WordsS (s : ByteArray) (w : World) (hs : s.size ≤ 1048577) : Calls Tryd.prog 84 #[.string s] w (GivesW (wordsB s) w) := by
  have HR0 := Lib.hid (come_start s)
  generalize wordsB s = R at HR0 ⊢
  obtain ⟨W0, hW0⟩ : ∃ W0, W0 = w.alloc (.cells #[] 9) := ⟨_, rfl⟩
  have hb0 : Below w.heap.size w W0 := by rw [hW0]; exact alloc_below _ _
  have X0 : Hid (Box W0 w.heap.size 9 #[]) := Lib.hid (by rw [hW0]; exact Box.new _ _ _)
  have HW0 := Lib.hid hW0
  have HB0 := Lib.hid hb0
  clear hW0 hb0
  go_enter Tryd.func84, Tryd.ntmps84
  go_wp2
  rw [← HW0.out]
  go_loopw [3, 4, 5] (fun u v i wr => ∃ (n : Nat) (A : Option Addr) (c f k : Nat) (outs : List ByteArray), u = .slice A n c ∧ v = .int .i64 f ∧ i = .int .i64 k ∧ k ≤ s.size + 1 ∧ n ≤ k ∧ (k ≤ s.size → f ≤ k) ∧ Hid (k ≤ s.size → R = outs ++ toCome s f k) ∧ Hid (k = s.size + 1 → R = outs) ∧ Hid (outs.length = n) ∧ Hid (GroS wr w.heap.size (.slice A n c) outs) ∧ Hid (Below w.heap.size w wr)) (fun _ _ i _ => s.size + 1 - (intOf i).toNat)
  case atStart => exact ⟨0, _, 0, 0, 0, [], rfl, rfl, rfl, by omega, by omega, fun _ => Nat.le_refl _, Lib.hid (fun _ => HR0.out.symm), Lib.hid (fun h => by omega), Lib.hid rfl, Lib.hid (rowv_empty (Nat.le_refl _) X0.out), HB0⟩
  case round =>
    clear HR0 X0 HB0 HW0
    obtain ⟨n, A, c, f, k, outs, rfl, rfl, rfl, hk, hn, hf, HR, HE, HL, HG, HB⟩ := hrel
    by_cases hle : k ≤ s.size
    · have hfk := hf hle
      have HRk := Lib.hid (HR.out hle)
      have HRw : Hid (wr.ownsRow w.heap.size 9 1 (.slice A n c) n (outs.map Value.string)) := Lib.hid (by have := HG.out; unfold GroS at this; rwa [HL.out] at this)
      have i1 : (k : Int) ≤ (s.size : Int) := by omega
      have i2 : (f : Int) ≤ (k : Int) := by omega
      clear HR HE hf HG
      by_cases hek : k = s.size
      · subst hek
        by_cases hfl : f < s.size
        · have i3 : (f : Int) < (s.size : Int) := by omega
          have HN : Hid (R = outs ++ [s.extract f s.size]) := Lib.hid (by rw [HRk.out, come_end1 s f hfl])
          have HBa : Hid (Below wr.heap.size wr (wr.alloc (.cells #[.string (s.extract f s.size)] 9))) := Lib.hid (alloc_below _ _)
          have HOw := Lib.hid (rowv_below HRw.out HBa.out)
          have HNw : Hid (∀ i u, [Value.string (s.extract f s.size)][i]? = some u → (wr.alloc (.cells #[.string (s.extract f s.size)] 9)).cell? ⟨wr.heap.size, i, none⟩ = some u) := Lib.hid (fun i u hi => by
            match i, hi with
            | 0, hi => simp at hi; subst hi; exact (Box.new wr 9 #[.string (s.extract f s.size)]).cell 0 rfl)
          have hsw : w.heap.size ≤ wr.heap.size := HB.out.size
          go_wp2_with (at_builtin; refine wpList_app_one rfl (.tmp 26) (.tmp 31) 40 9 rfl (.string ByteArray.empty) 1 16 elemStr Tryd.underlying40 w.heap.size (.slice A n c) n (outs.map Value.string) rfl ?_ wr.heap.size 1 rfl [.string (s.extract f s.size)] rfl ?_ ?_ ?_ ?_ ?_ ?_)
          any_goals first | rfl | exact HOw.out | exact HNw.out | (intro u hu; simp at hu; subst hu; rfl) | (unfold maxLen; omega) | omega | (simp; done) | (simp; omega)
          intro A2 c2 w2 hR2 hc2 hg2 hb2
          have HR2 := Lib.hid hR2
          have HB2 := Lib.hid ((bt HB.out HBa.out).trans (hb2.mono (Nat.le_refl _)))
          clear hR2 hb2 hg2
          go_wp2
          go_roundw
          case rel =>
            refine ⟨n + 1, A2, c2, s.size + 1, s.size + 1, outs ++ [s.extract f s.size], rfl, by go_num, by go_num, by omega, by omega, fun _ => Nat.le_refl _, Lib.hid (fun h => by omega), Lib.hid (fun _ => HN.out), Lib.hid (by rw [List.length_append, HL.out]; rfl), Lib.hid ?_, HB2⟩
            unfold GroS; rw [List.length_append, HL.out, List.map_append]; exact HR2.out
          case measure => simp [intOf]
        · have hfe : f = s.size := by omega
          subst hfe
          have HN : Hid (R = outs) := Lib.hid (by rw [HRk.out, come_end2 s, List.append_nil])
          clear hfl i2
          go_wp2
          go_roundw
          case rel => exact ⟨n, A, c, (s.size + 1), s.size + 1, outs, rfl, by go_num, by go_num, by omega, by omega, fun _ => by omega, Lib.hid (fun h => by omega), Lib.hid (fun _ => HN.out), HL, Lib.hid (by unfold GroS; rw [HL.out]; exact HRw.out), HB⟩
          case measure => simp [intOf]
      · have hlt : k < s.size := by omega
        have q1 : ((k : Int) == (s.size : Int)) = false := by simp; omega
        have i4 : (k : Int) < (s.size : Int) := by omega
        by_cases hc : s[k] = 32
        · have q2 : ((s[k].toNat : Int) == 32) = true := by rw [hc]; rfl
          by_cases hfl : f < k
          · have i3 : (f : Int) < (k : Int) := by omega
            have HN : Hid (R = outs ++ [s.extract f k] ++ toCome s (k + 1) (k + 1)) := Lib.hid (by rw [HRk.out, come_sep1 s f k hfl hlt hc, List.append_assoc]; rfl)
            clear hc
            have HBa : Hid (Below wr.heap.size wr (wr.alloc (.cells #[.string (s.extract f k)] 9))) := Lib.hid (alloc_below _ _)
            have HOw := Lib.hid (rowv_below HRw.out HBa.out)
            have HNw : Hid (∀ i u, [Value.string (s.extract f k)][i]? = some u → (wr.alloc (.cells #[.string (s.extract f k)] 9)).cell? ⟨wr.heap.size, i, none⟩ = some u) := Lib.hid (fun i u hi => by
              match i, hi with
              | 0, hi => simp at hi; subst hi; exact (Box.new wr 9 #[.string (s.extract f k)]).cell 0 rfl)
            have hsw : w.heap.size ≤ wr.heap.size := HB.out.size
            go_wp2_with (at_builtin; refine wpList_app_one rfl (.tmp 26) (.tmp 31) 40 9 rfl (.string ByteArray.empty) 1 16 elemStr Tryd.underlying40 w.heap.size (.slice A n c) n (outs.map Value.string) rfl ?_ wr.heap.size 1 rfl [.string (s.extract f k)] rfl ?_ ?_ ?_ ?_ ?_ ?_)
            any_goals first | rfl | exact HOw.out | exact HNw.out | (intro u hu; simp at hu; subst hu; rfl) | (unfold maxLen; omega) | omega | (simp; done) | (simp; omega)
            intro A2 c2 w2 hR2 hc2 hg2 hb2
            have HR2 := Lib.hid hR2
            have HB2 := Lib.hid ((bt HB.out HBa.out).trans (hb2.mono (Nat.le_refl _)))
            clear hR2 hb2 hg2
            go_wp2
            go_roundw
            case rel =>
              refine ⟨n + 1, A2, c2, k + 1, k + 1, outs ++ [s.extract f k], rfl, by go_num, by go_num, by omega, by omega, fun _ => Nat.le_refl _, Lib.hid (fun _ => HN.out), Lib.hid (fun h => by omega), Lib.hid (by rw [List.length_append, HL.out]; rfl), Lib.hid ?_, HB2⟩
              unfold GroS; rw [List.length_append, HL.out, List.map_append]; exact HR2.out
            case measure => simp [intOf]; omega
          · have i3 : ¬ (f : Int) < (k : Int) := by omega
            obtain rfl : f = k := by omega
            have HN : Hid (R = outs ++ toCome s (f + 1) (f + 1)) := Lib.hid (by rw [HRk.out, come_sep2 s f hlt hc])
            clear hc
            go_wp2
            go_roundw
            case rel => exact ⟨n, A, c, (f + 1), f + 1, outs, rfl, by go_num, by go_num, by omega, by omega, fun _ => by omega, Lib.hid (fun _ => HN.out), Lib.hid (fun h => by omega), HL, Lib.hid (by unfold GroS; rw [HL.out]; exact HRw.out), HB⟩
            case measure => simp [intOf]; omega
        · have q2 : ((s[k].toNat : Int) == 32) = false := by
            have : s[k].toNat ≠ 32 := fun e => hc (UInt8.toNat_inj.1 e)
            simp; omega
          have HN : Hid (R = outs ++ toCome s f (k + 1)) := Lib.hid (by rw [HRk.out, come_in s f k hfk hlt hc])
          clear hc
          go_wp2
          go_roundw
          case rel => exact ⟨n, A, c, f, k + 1, outs, rfl, rfl, by go_num, by omega, by omega, fun _ => by omega, Lib.hid (fun _ => HN.out), Lib.hid (fun h => by omega), HL, Lib.hid (by unfold GroS; rw [HL.out]; exact HRw.out), HB⟩
          case measure => simp [intOf]; omega
    · obtain rfl : k = s.size + 1 := by omega
      have HF := Lib.hid (HE.out rfl)
      have i1 : ¬ ((s.size + 1 : Nat) : Int) ≤ (s.size : Int) := by omega
      go_wp2
      go_ret
      exact ⟨A, n, c, rfl, by rw [HF.out]; exact HL.out, Lib.hid (by rw [HF.out]; exact HG.out.own (Nat.le_refl _)), HB.out⟩
end Go.Proofs.YtoaeofahknknhaaDoor
