/- Cutting a text at its first space; the first words of a text, the program's. -/
import Derived.Test.YtcchhbkbnbphhaaDoorM1
import Derived.Test.YtcchhbkbnbphhaaDoorShelfT
import Derived.Test.YtcchhbkbnbphhaaDoorM2
import Derived.BigQuiet
import Derived.Deep.QuietTactic
import Derived.Lib.IndexLaws
import Derived.IntWalk
namespace Go.Proofs.YtcchhbkbnbphhaaDoor
open Go.RowKit

def cutW (s : ByteArray) : ByteArray × ByteArray × Bool :=
  if Lib.indexByte s.data.toList 32 = -1 then (s, ⟨#[]⟩, false) else (s.extract 0 (Lib.indexByte s.data.toList 32).toNat, s.extract ((Lib.indexByte s.data.toList 32).toNat + 1) s.size, true)
set_option maxRecDepth 100000 in
set_option maxHeartbeats 1000000 in
theorem cutL (s : ByteArray) (w : World) (hs : s.size ≤ maxLen) : Calls Tryd.prog 69 #[.string s, .string ⟨#[32]⟩] w fun e w' => e = .returned (.tuple #[.string (cutW s).1, .string (cutW s).2.1, .bool (cutW s).2.2]) ∧ Below w.heap.size w w' := by
  unfold maxLen at hs
  have HC : Hid (cutW s = if Lib.indexByte s.data.toList 32 = -1 then (s, ⟨#[]⟩, false) else (s.extract 0 (Lib.indexByte s.data.toList 32).toNat, s.extract ((Lib.indexByte s.data.toList 32).toNat + 1) s.size, true)) := Lib.hid rfl
  generalize cutW s = r at HC ⊢
  have HI := Lib.hid (fun W => Tryd.stringslite_Index_one s 32 W)
  have hge := Lib.indexByte_ge s.data.toList 32
  have hsm : ∀ o : Nat, Lib.indexByte s.data.toList 32 = o → o < s.size := fun o ho => by
    have := (Lib.indexByte_some ho).1
    have := (List.getElem?_eq_some_iff.1 this).1
    simpa using this
  generalize Lib.indexByte s.data.toList 32 = i at HC HI hge hsm
  by_cases hi : i = -1
  · have HR : Hid (r = (s, ⟨#[]⟩, false)) := Lib.hid (by rw [HC.out, if_pos hi])
    rw [HR.out]
    subst hi
    clear HC HR hsm
    go_enter Tryd.func69, Tryd.ntmps69
    go_wp2_with (go_at_call 78; refine (HI.out _).mono ?_; rintro e w' ⟨rfl, rfl⟩)
    refine bodyPost_ret (v := .tuple #[.string s, .string ⟨#[]⟩, .bool false]) (by simp [results, Tryd.results69, go_sem]) rfl ?_
    exact ⟨rfl, Below.refl _ _⟩
  · obtain ⟨k, rfl⟩ : ∃ k : Nat, i = k := ⟨i.toNat, by omega⟩
    have hk := hsm k rfl
    have HR : Hid (r = (s.extract 0 k, s.extract (k + 1) s.size, true)) := Lib.hid (by rw [HC.out, if_neg hi, show ((k : Int)).toNat = k from by omega])
    rw [HR.out]
    clear HC HR hsm hi hge
    go_enter Tryd.func69, Tryd.ntmps69
    go_wp2_with (go_at_call 78; refine (HI.out _).mono ?_; rintro e w' ⟨rfl, rfl⟩)
    have e1 : IntKind.i64.wrap ((k : Int) + 1) = (k : Int) + 1 := IntWalk.i64_in _ (by omega)
    have e2 : ((k : Int) + 1).toNat = k + 1 := by omega
    have b0 : (0 : Int) ≤ (k : Int) := by omega
    have b1 : (k : Int) ≤ (s.size : Int) := by omega
    have b2 : (0 : Int) ≤ (k : Int) + 1 := by omega
    have b3 : (k : Int) + 1 ≤ (s.size : Int) := by omega
    have b4 : k ≤ s.size := by omega
    have b5 : k + 1 ≤ s.size := by omega
    go_quiet (fail)
    go_wp2
    refine bodyPost_ret (v := .tuple #[.string (s.extract 0 k), .string (s.extract (k + 1) s.size), .bool true]) (by simp [results, Tryd.results69, go_sem]) rfl ?_
    exact ⟨rfl, below_drewN (Below.refl _ _) _⟩
set_option maxRecDepth 100000 in
theorem cutS (s : ByteArray) (w : World) (hs : s.size ≤ maxLen) : Calls Tryd.prog 61 #[.string s, .string ⟨#[32]⟩] w fun e w' => e = .returned (.tuple #[.string (cutW s).1, .string (cutW s).2.1, .bool (cutW s).2.2]) ∧ Below w.heap.size w w' := by
  have HO := Lib.hid (fun W => cutL s W hs)
  generalize cutW s = r at HO ⊢
  obtain ⟨a, b, c⟩ := r
  go_enter Tryd.func61, Tryd.ntmps61
  go_wp2_with fail
  refine (HO.out _).mono ?_
  rintro e w1 ⟨rfl, hb⟩
  go_wp2
  refine bodyPost_ret (v := .tuple #[.string a, .string b, .bool c]) (by simp [results, Tryd.results61, go_sem]) rfl ?_
  exact ⟨rfl, hb⟩
theorem cut_words (s : ByteArray) (h0 : s.data.toList ≠ []) (h1 : ∀ c r, s.data.toList = c :: r → c ≠ 32) : wordsB s = (cutW s).1 :: wordsB (cutW s).2.1 ∧ (cutW s).2.1.size < s.size ∧ (cutW s).1.size ≤ s.size := by
  have hpos : 0 < s.size := by
    have := List.length_pos_iff.2 h0
    simpa using this
  unfold cutW
  by_cases hi : Lib.indexByte s.data.toList 32 = -1
  · rw [if_pos hi]
    have hn := Lib.indexByte_none hi
    refine ⟨?_, hpos, Nat.le_refl _⟩
    have e1 : wordsB s = [bs s.data.toList] := by
      unfold wordsB
      rw [wordsA_none _ _ hn, if_neg (by simpa using h0)]
      rfl
    rw [e1, bs_of]
    rfl
  · rw [if_neg hi]
    obtain ⟨o, ho⟩ : ∃ o : Nat, Lib.indexByte s.data.toList 32 = o := ⟨(Lib.indexByte s.data.toList 32).toNat, by have := Lib.indexByte_ge s.data.toList 32; omega⟩
    obtain ⟨ha, hb⟩ := Lib.indexByte_some ho
    rw [ho, show ((o : Int)).toNat = o from by omega]
    have hlt : o < s.size := by
      have := (List.getElem?_eq_some_iff.1 ha).1
      simpa using this
    have hne : o ≠ 0 := by
      rintro rfl
      cases hl : s.data.toList with
      | nil => exact h0 hl
      | cons c r =>
        rw [hl] at ha
        simp at ha
        exact h1 c r hl ha
    refine ⟨?_, by rw [ByteArray.size_extract]; omega, by rw [ByteArray.size_extract]; omega⟩
    have e1 : [] ++ s.data.toList.take o ≠ [] := by
      intro e
      rw [List.nil_append] at e
      rcases List.take_eq_nil_iff.1 e with h | h
      · exact hne h
      · exact h0 h
    unfold wordsB
    rw [wordsA_some _ [] o ha hb, if_neg e1, List.map_cons, ext_list]
    congr 1
    · apply ByteArray.ext
      apply Array.ext'
      rw [bs_toList, ext_list]
      simp
    · congr 2
      rw [List.take_of_length_le]
      rw [List.length_drop]
      simp
end Go.Proofs.YtcchhbkbnbphhaaDoor
