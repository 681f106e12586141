/- Encode, the program's: the bytes of an instruction. -/
import Derived.Test.YtoaeofahknknhaaDoorOpLen
import Derived.Test.YtoaeofahknknhaaDoorOpDec
import Derived.Test.YtoaeofahknknhaaDoorApp
namespace Go.Proofs.YtoaeofahknknhaaDoor
open Go.RowKit

def encR (arg : Int) : Nat → Int
  | 0 => arg
  | k + 1 => encR arg k / 256
def encP (arg : Int) : Nat → List Int
  | 0 => []
  | k + 1 => encP arg k ++ [encR arg k % 256]
theorem encR_nonneg (arg : Int) (h : 0 ≤ arg) : ∀ k, 0 ≤ encR arg k
  | 0 => h
  | k + 1 => Int.ediv_nonneg (encR_nonneg arg h k) (by omega)
theorem encR_le (arg : Int) (h : 0 ≤ arg) (h2 : arg ≤ 4095) : ∀ k, encR arg k ≤ 4095
  | 0 => h2
  | k + 1 => by
    have := encR_le arg h h2 k
    have := encR_nonneg arg h k
    show encR arg k / 256 ≤ 4095
    omega
theorem encP_len (arg : Int) (k : Nat) : (encP arg k).length = k := by
  induction k with
  | zero => rfl
  | succ k ih => simp only [encP, List.length_append, ih]; rfl
/-- The bytes of an instruction. -/
def encL (op reg arg : Int) : List Int := (8 * op + reg) :: encP arg ((lenT op).toNat - 1)
theorem encL_len (op reg arg : Int) : (encL op reg arg).length = (lenT op).toNat := by
  have := lenT_range op
  simp only [encL, List.length_cons, encP_len]; omega
def encF (op reg arg : Int) : List Int × Int := if okIns op reg arg then (encL op reg arg, 0) else ([], 1)
theorem encF_len (op reg arg : Int) : lenA [Lf.I (encF op reg arg).1] ≤ 4294967296 := by
  have := lenT_range op
  unfold encF
  split
  · simp only [lenA, Lf.len, encL_len]; omega
  · simp [lenA, Lf.len]
def sliceLen : Value → Nat
  | .slice _ n _ => n
  | _ => 0
theorem rowv_box {w : World} {base g : Nat} {t : TypeId} {cs : Array Value} (hb : base ≤ g) (hg : Box w g t cs) (hm : cs.size ≤ maxLen) : w.ownsRow base t 1 (.slice (some ⟨g, 0, none⟩) cs.size cs.size) cs.size cs.toList :=
  ⟨by simp, .inr ⟨g, cs.size, cs, rfl, hb, hg, Nat.le_refl _, hm, by simp, by rw [Nat.mul_one]; exact List.take_of_length_le (by simp)⟩⟩
/-- The call hands back a []int of its own. -/
def GivesI (zs : List Int) (w : World) (e : Ending) (w' : World) : Prop := ∃ A n c, e = .returned (.slice A n c) ∧ zs.length = n ∧ Hid (OwnI w' w.heap.size w'.heap.size A zs) ∧ Below w.heap.size w w'

set_option maxRecDepth 100000 in
set_option maxHeartbeats 4000000 in
theorem insBytes (op : Nat) (reg arg : Int) (w : World) (ht : OpsT w) (h0 : op ≤ 21) (hr0 : 0 ≤ reg) (hr1 : reg ≤ 3) (ha0 : 0 ≤ arg) (ha1 : arg ≤ 4095) :
    Calls Tryd.prog 46 #[.agg #[.int .i64 op, .int .i64 reg, .int .i64 arg]] w (GivesI (encL op reg arg) w) := by
  have hlt := ht.lt
  have HC : Hid (∀ W, Below w.heap.size w W → W.cell? ⟨0, op * 4, none⟩ = some (.string (opWord op)) ∧ W.cell? ⟨0, op * 4 + 1, none⟩ = some (.int .i64 (regT op)) ∧ W.cell? ⟨0, op * 4 + 2, none⟩ = some (.int .i64 (argT op)) ∧ W.cell? ⟨0, op * 4 + 3, none⟩ = some (.int .i64 (fixT op))) := Lib.hid (fun W hb => (ht.below hb) op (by omega))
  have HL := Lib.hid (lenA_arg op)
  have hl := lenT_range op
  have HE : Hid (encL op reg arg = (8 * (op : Int) + reg) :: encP arg ((lenT op).toNat - 1)) := Lib.hid rfl
  generalize encL op reg arg = zs at HE ⊢
  obtain ⟨l, hll⟩ : ∃ l : Nat, lenT op = l := ⟨(lenT op).toNat, by omega⟩
  rw [hll] at HL HE hl
  rw [show ((l : Int)).toNat = l from by omega] at HE
  clear hll ht
  generalize opWord op = s at HC
  generalize regT op = r at HC
  generalize argT op = ar at HC HL
  generalize fixT op = cy at HC
  have hl1 : 1 ≤ l := by omega
  have hl3 : l ≤ 3 := by omega
  have HN := Lib.hid (encR_nonneg arg ha0)
  have HM := Lib.hid (encR_le arg ha0 ha1)
  have HP := Lib.hid (encP_len arg)
  obtain ⟨W0, hW0⟩ : ∃ W0, W0 = (w.alloc (.cells #[.int .i64 op, .int .i64 reg, .int .i64 arg] 24)).alloc (.cells #[.int .i64 (8 * op + reg)] 3) := ⟨_, rfl⟩
  have hb0 : Below w.heap.size w W0 := by rw [hW0]; exact bt (alloc_below _ _) (alloc_below _ _)
  have X0 : Hid (Box W0 w.heap.size 24 #[.int .i64 op, .int .i64 reg, .int .i64 arg]) := Lib.hid (by rw [hW0]; exact (Box.new _ _ _).alloc _)
  have X1 : Hid (Box W0 (w.heap.size + 1) 3 #[.int .i64 (8 * op + reg)]) := Lib.hid (by rw [hW0]; simpa using Box.new (w.alloc (.cells #[.int .i64 op, .int .i64 reg, .int .i64 arg] 24)) 3 #[.int .i64 (8 * op + reg)])
  have hs0 : w.heap.size + 1 ≤ W0.heap.size := by have := X1.out.lt; omega
  have HW0 := Lib.hid hW0
  have HB0 := Lib.hid hb0
  clear hW0 hb0 hl
  go_enter Tryd.func46, Tryd.ntmps46
  go_wp2
  rw [← HW0.out]
  clear HW0
  go_loopw [3, 4] (fun u v wr => ∃ (j : Nat) (A' : Option Addr) (c' : Nat), j + 1 ≤ l ∧ u = .slice A' (j + 1) c' ∧ v = .int .i64 (encR arg j) ∧ Hid (Below w.heap.size w wr) ∧ Hid (GroI wr (w.heap.size + 1) (.slice A' (j + 1) c') ((8 * op + reg) :: encP arg j)) ∧ Hid (Box wr w.heap.size 24 #[.int .i64 op, .int .i64 reg, .int .i64 arg]) ∧ w.heap.size + 1 ≤ wr.heap.size) (fun u _ _ => 4 - sliceLen u)
  case atStart => exact ⟨0, _, 1, hl1, rfl, rfl, HB0, Lib.hid (rowv_box (Nat.le_refl _) X1.out (by show 1 ≤ maxLen; unfold maxLen; omega)), X0, hs0⟩
  case round =>
    clear HB0 X0 X1 hs0
    obtain ⟨j, A', c', hj, rfl, rfl, HB, HG, X0, hsz⟩ := hrel
    have x0 := X0.out.cell 0 rfl
    have x1 := X0.out.cell 1 rfl
    have x2 := X0.out.cell 2 rfl
    obtain ⟨c1, c2, c3, c4⟩ := HC.out wr HB.out
    have hlw : 0 < wr.heap.size := by omega
    by_cases hlt : j + 1 < l
    · have hcmp : ((j + 1 : Nat) : Int) < (l : Int) := by omega
      have HRk : Hid (wr.ownsRow (w.heap.size + 1) 3 1 (.slice A' (j + 1) c') (j + 1) (((8 * op + reg) :: encP arg j).map (Value.int .i64))) := Lib.hid (by have := HG.out; unfold GroI at this; rwa [List.length_cons, HP.out] at this)
      have hr0' := HN.out j
      have hr1' := HM.out j
      have HS1 : Hid (encR arg (j + 1) = encR arg j / 256) := Lib.hid rfl
      have HS2 : Hid (encP arg (j + 1) = encP arg j ++ [encR arg j % 256]) := Lib.hid rfl
      generalize encR arg j = rest at HS1 HS2 hr0' hr1' ⊢
      clear HG
      go_wp2_with fail
      refine (opLength s r ar cy _).mono ?_
      rintro e w1 ⟨rfl, hb⟩
      rw [HL.out]
      have HB1 := Lib.hid (bt HB.out hb)
      have HR1 := Lib.hid (rowv_below HRk.out hb)
      have X1 := Lib.hid (X0.out.step hb)
      have hs1 : w.heap.size + 1 ≤ w1.heap.size := Nat.le_trans hsz hb.size
      clear hb x0 x1 x2 c1 c2 c3 c4 X0 HB HRk hsz hlw
      have HBa : Hid (Below w1.heap.size w1 (w1.alloc (.cells #[.int .i64 (rest % 256)] 3))) := Lib.hid (alloc_below _ _)
      have HOw := Lib.hid (rowv_below HR1.out HBa.out)
      have HNw : Hid (∀ i u, [Value.int .i64 (rest % 256)][i]? = some u → (w1.alloc (.cells #[.int .i64 (rest % 256)] 3)).cell? ⟨w1.heap.size, i, none⟩ = some u) := Lib.hid (fun i u hi => by
        match i, hi with
        | 0, hi => simp at hi; subst hi; exact (Box.new w1 3 #[.int .i64 (rest % 256)]).cell 0 rfl)
      have hm : ((j + 1 : Nat) : Int) + 1 ≤ 1000 := by omega
      go_wp2_with (at_builtin; refine wpList_app_one rfl (.tmp 22) (.tmp 25) 26 3 rfl (.int .i64 0) 1 8 elemInt Tryd.underlying26 (w.heap.size + 1) (.slice A' (j + 1) c') (j + 1) (((8 * op + reg) :: encP arg j).map (Value.int .i64)) rfl ?hown w1.heap.size 1 rfl [.int .i64 (rest % 256)] rfl ?hnews ?hone ?h63 ?hby ?hbase ?_)
      case hown => exact HOw.out
      case hnews => exact HNw.out
      case hone => intro u hu; simp at hu; subst hu; rfl
      case h63 => unfold maxLen; omega
      case hby => omega
      case hbase => simp; omega
      intro A2 c2 w2 hR2 hc2 hg2 hb2
      have HR2 := Lib.hid hR2
      have X2 := Lib.hid ((X1.out.step HBa.out).below hb2 (by omega))
      have HB2 := Lib.hid ((bt HB1.out HBa.out).trans (hb2.mono (by omega)))
      have hs2 : w.heap.size + 1 ≤ w2.heap.size := Nat.le_trans (Nat.le_trans hs1 HBa.out.size) hb2.size
      clear hR2 hb2 hg2
      go_wp2
      go_roundw
      case rel =>
        refine ⟨j + 1, A2, c2, by omega, rfl, by rw [HS1.out], HB2, Lib.hid ?_, X2, hs2⟩
        unfold GroI; rw [HS2.out, List.length_cons, List.length_append, HP.out, ← List.cons_append, List.map_append]; exact HR2.out
      case measure => simp [sliceLen]; omega
    · obtain rfl : l = j + 1 := by omega
      have hcmp : ¬ ((j + 1 : Nat) : Int) < ((j + 1 : Nat) : Int) := by omega
      go_wp2_with fail
      refine (opLength s r ar cy _).mono ?_
      rintro e w1 ⟨rfl, hb⟩
      rw [HL.out]
      have HB1 := Lib.hid (bt HB.out hb)
      have HO : Hid (OwnI w1 w.heap.size w1.heap.size A' ((8 * op + reg) :: encP arg j)) := Lib.hid ((HG.out.own (Nat.le_succ _)).below hb |>.wideB (Nat.le_refl _) hb.size)
      clear hb x0 x1 x2 c1 c2 c3 c4 X0 HB HG
      go_wp2
      go_ret
      exact ⟨_, _, _, rfl, by rw [HE.out, List.length_cons, HP.out]; omega, by rw [HE.out]; exact HO, HB1.out⟩
end Go.Proofs.YtoaeofahknknhaaDoor
