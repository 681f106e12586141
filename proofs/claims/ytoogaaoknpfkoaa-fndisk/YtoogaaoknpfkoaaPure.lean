/- Facts on lists for FnDisk: what is written is read back, what is flushed survives, what is dropped is lost. -/
import Derived.Test.YtoogaaoknpfkoaaAt
import Derived.Test.YtoogaaoknpfkoaaReadDisk
import Derived.Test.YtoogaaoknpfkoaaCrashDisk
namespace Go.Proofs.Ytoogaaoknpfkoaa
open Go.RowKit

theorem ok_to {ss : List ByteArray} {ws : List (Int × ByteArray)} (h : Ok ss ws) : okDisk ss ws = true := by
  unfold okDisk
  simp only [Bool.and_eq_true, decide_eq_true_eq, List.all_eq_true]
  exact ⟨⟨h.n48, h.m60⟩, fun s hs => by unfold okSt; exact decide_eq_true (h.small s hs), fun x hx => by unfold okWr secB; simp only [Bool.and_eq_true, decide_eq_true_eq]; exact ⟨h.at_ x hx, h.smallW x hx⟩⟩
theorem secB_of {a : Int} (h0 : 0 ≤ a) (h1 : a ≤ 47) : secB a = true := by unfold secB; exact decide_eq_true ⟨h0, h1⟩
theorem okF_of {xs : List Int} (h : ∀ x ∈ xs, 0 ≤ x ∧ x ≤ 2) : okF xs = true := by
  unfold okF
  rw [List.all_eq_true]
  exact fun x hx => by unfold fateB; exact decide_eq_true (h x hx)
theorem write_ok {ss : List ByteArray} {ws : List (Int × ByteArray)} (h : Ok ss ws) (hm : ws.length < 60) {a : Int} {t : ByteArray} (h0 : 0 ≤ a) (h1 : a ≤ 47) (ht : t.size ≤ 100) : writeOf ss ws a t = (ss, ws ++ [(a, t)], 0) := by
  unfold writeOf
  rw [if_neg (by omega), if_pos (ok_to h), if_pos (secB_of h0 h1), if_neg (by omega), if_neg (by omega)]
theorem getD_last (ws : List (Int × ByteArray)) (x : Int × ByteArray) : (ws ++ [x]).getD ws.length (0, ByteArray.empty) = x := by
  rw [List.getD_eq_getElem?_getD, List.getElem?_append_right (Nat.le_refl _)]; simp
theorem read_back {ss : List ByteArray} {ws : List (Int × ByteArray)} {a : Int} {t : ByteArray} (h : Ok ss (ws ++ [(a, t)])) (h0 : 0 ≤ a) (h1 : a ≤ 47) : readOf ss (ws ++ [(a, t)]) a = (t, 0) := by
  unfold readOf
  rw [if_pos (ok_to h), if_pos (secB_of h0 h1)]
  unfold readS
  rw [show (ws ++ [(a, t)]).length = ws.length + 1 by simp, down, getD_last]
  simp
theorem flush_last (ss : List ByteArray) (ws : List (Int × ByteArray)) (a : Int) (t : ByteArray) (h : a.toNat < ss.length) : (settleN ss (ws ++ [(a, t)]) [1] (ws.length + 1)).getD a.toNat ByteArray.empty = t := by
  rw [settle_one, getD_last, List.getD_eq_getElem?_getD, List.getElem?_set_self (by rw [settleN_len]; exact h)]; rfl
theorem flush_ok {ss : List ByteArray} {ws : List (Int × ByteArray)} (h : Ok ss ws) : flushS ss ws = settleN ss ws [1] ws.length ∧ flushC ss ws = 0 := by
  unfold flushS flushC
  rw [if_pos (ok_to h), if_pos (ok_to h)]; exact ⟨rfl, rfl⟩
theorem crash_ok {ss : List ByteArray} {ws : List (Int × ByteArray)} (h : Ok ss ws) {xs : List Int} (hx : ∀ x ∈ xs, 0 ≤ x ∧ x ≤ 2) (hl : xs.length ≤ 4096) : crashS ss ws xs = settleN ss ws xs ws.length ∧ crashC ss ws xs = 0 := by
  have hc : ¬ 4096 < xs.length := by omega
  unfold crashS crashC
  constructor <;> rw [if_neg hc, if_pos (ok_to h), if_pos (okF_of hx)]
theorem settle_drop (ss : List ByteArray) (ws : List (Int × ByteArray)) : ∀ k, settleN ss ws [] k = ss
  | 0 => rfl
  | k + 1 => by rw [settleN, settle_drop ss ws k]; unfold stepF fateAt; simp
theorem read_sure {ss : List ByteArray} {a : Int} (h : Ok ss []) (h0 : 0 ≤ a) (h1 : a ≤ 47) : readOf ss [] a = (ss.getD a.toNat ByteArray.empty, 0) := by
  unfold readOf
  rw [if_pos (ok_to h), if_pos (secB_of h0 h1)]
  rfl

/-- All that FnDisk asks of the lists. -/
theorem disk_facts {ss : List ByteArray} {ws : List (Int × ByteArray)} (h : Ok ss ws) (hm : ws.length ≤ 8) {a : Int} {t : ByteArray} (h0 : 0 ≤ a) (h1 : a ≤ 47) (ht : t.size ≤ 100) :
    ∃ W fl, writeOf ss ws a t = (ss, W, 0) ∧ Ok ss W ∧ W.length ≤ 9 ∧ readOf ss W a = (t, 0) ∧ flushS ss W = fl ∧ flushC ss W = 0 ∧ Ok fl [] ∧ readOf fl [] a = (t, 0) ∧
      (∀ xs : List Int, (∀ x ∈ xs, 0 ≤ x ∧ x ≤ 2) → xs.length ≤ 3 → crashS fl [] xs = fl ∧ crashC fl [] xs = 0 ∧ crashC ss W xs = 0 ∧ Ok (crashS ss W xs) []) ∧ crashS ss W [] = ss ∧ crashS ss W [1] = fl := by
  have hW := ok_write h (by omega) a t h0 h1 ht
  have hlen : (ws ++ [(a, t)]).length = ws.length + 1 := by simp
  have hF := flush_ok hW
  have hO := ok_settle hW [1] (ws ++ [(a, t)]).length (Nat.le_refl _)
  refine ⟨ws ++ [(a, t)], _, write_ok h (by omega) h0 h1 ht, hW, by rw [hlen]; omega, read_back hW h0 h1, hF.1, hF.2, hO, ?_, fun xs hx hl => ?_, ?_, ?_⟩
  · rw [read_sure hO h0 h1, hlen, flush_last ss ws a t (by rw [h.n48]; omega)]
  · have q1 := crash_ok hO hx (by omega)
    have q2 := crash_ok hW hx (by omega)
    exact ⟨q1.1, q1.2, q2.2, by rw [q2.1]; exact ok_settle hW xs _ (Nat.le_refl _)⟩
  · rw [(crash_ok hW (xs := []) (fun x hx => by cases hx) (by simp)).1, settle_drop]
  · rw [(crash_ok hW (xs := [1]) (fun x hx => by simp at hx; subst hx; omega) (by simp)).1]
end Go.Proofs.Ytoogaaoknpfkoaa
