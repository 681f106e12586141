/- fetch: three bytes off the bus, decoded. Written by gen_procf.py. -/
import Derived.Test.YtcchhbkbnbphhaaGreatDoorProcX
import Derived.Test.YtcchhbkbnbphhaaGreatDoorM6
namespace Go.Proofs.YtcchhbkbnbphhaaGreatDoor
open Go.RowKit

def fetV (d : CD) (m : MD) (k : Nat) : Int := m.get ((d.pc + k) % 4096)
theorem fetV_in {d : CD} {m : MD} (hm : m.Ok) (k : Nat) : 0 ≤ fetV d m k ∧ fetV d m k ≤ 255 := hm.get _ (Int.emod_nonneg _ (by decide)) (by have := Int.emod_lt_of_pos (d.pc + k) (by decide : (0 : Int) < 4096); omega)
theorem fetF {d : CD} {m : MD} (hd : d.Ok) : fetchF d m = decV (fetV d m 0) (fetV d m 1) (fetV d m 2) := by
  have h := hd.pc
  unfold fetchF fetV
  rw [show (d.pc + ((0 : Nat) : Int)) % 4096 = d.pc by omega]
  rfl
theorem row3 {w : World} {b : Nat} {t : TypeId} (X : Box w b t #[.int .i64 0, .int .i64 0, .int .i64 0]) : w.rowIs b t 3 (fun _ => .int .i64 0) := by
  obtain ⟨cs, hc, hs, hi⟩ := World.rowIs_made w (.int .i64 0) 3 t
  have e : (w.alloc (.cells (madeCells #[.int .i64 0] 3) t)).heap[w.heap.size]? = some (.cells (madeCells #[.int .i64 0] 3) t (0, 0)) := Box.new w t (madeCells #[.int .i64 0] 3)
  rw [e] at hc
  injection hc with hc
  injection hc with hc _
  have q : (madeCells #[.int .i64 0] 3) = #[.int .i64 0, .int .i64 0, .int .i64 0] := by kernel_rfl
  exact ⟨cs, by rw [← hc, q]; exact X, hs, hi⟩
def GFet (x : Int × Int × Int) (w : World) (e : Ending) (w' : World) : Prop := e = .returned (.agg #[.int .i64 x.1, .int .i64 x.2.1, .int .i64 x.2.2]) ∧ Hid (Below w.heap.size w w')

set_option maxRecDepth 100000 in
set_option maxHeartbeats 4000000 in
theorem prFetch (a : PA) (d : CD) (m : MD) (s : Int) (w : World) (ht : OpsT w) (hd : d.Ok) (hm : m.Ok) (h : PrAt w a d m s) :
    Calls Tryz.prog 51 #[.pointer (some ⟨a.p, 0, none⟩)] w (GFet (fetchF d m) w) := by
  have HP := Lib.hid h
  have HT := Lib.hid ht
  have h2 := hd.pc
  obtain ⟨p0, p1⟩ := h2
  have HF := Lib.hid (fetF (m := m) hd)
  have HV := Lib.hid (fetV_in (d := d) hm)
  have HRd := Lib.hid (fun W (k : Nat) (q : BusAt W a.R a.g a.b0 a.b1 a.b2 a.b3 a.A0 a.A1 a.c0 a.c1 m.r m.i m.z m.g m.s) => busReadM a m W ((d.pc + k) % 4096) (Int.emod_nonneg _ (by decide)) (by have := Int.emod_lt_of_pos (d.pc + k) (by decide : (0 : Int) < 4096); omega) hm q)
  have HE : Hid (∀ k : Nat, m.get ((d.pc + k) % 4096) = fetV d m k) := Lib.hid (fun _ => rfl)
  rw [HF.out]
  generalize fetV d m = v at HF HV HE ⊢
  simp only [HE.out] at HRd
  obtain ⟨W0, hW0⟩ : ∃ W0, W0 = (w.alloc (.cells #[.int .i64 0, .int .i64 0, .int .i64 0] 82)).alloc (.cells #[.int .i64 0, .int .i64 0, .int .i64 0] 115) := ⟨_, rfl⟩
  have hb0 : Below w.heap.size w W0 := by rw [hW0]; exact bt (alloc_below _ _) (alloc_below _ _)
  have X0 : Hid (Box W0 w.heap.size 82 #[.int .i64 0, .int .i64 0, .int .i64 0]) := Lib.hid (by rw [hW0]; exact (Box.new _ _ _).step (alloc_below _ _))
  have X1 : Hid (Box W0 (w.heap.size + 1) 115 #[.int .i64 0, .int .i64 0, .int .i64 0]) := Lib.hid (by rw [hW0]; simpa using Box.new (w.alloc (.cells #[.int .i64 0, .int .i64 0, .int .i64 0] 82)) 115 #[.int .i64 0, .int .i64 0, .int .i64 0])
  have R1 := Lib.hid (row3 X1.out)
  have HW0 := Lib.hid hW0
  have HK : Hid (∀ W, Box W a.p 59 (procC a d s) → W.cell? ⟨a.p, 0, none⟩ = some (.int .i64 d.pc) ∧ W.cell? ⟨a.p, 9, none⟩ = some (.pointer (some ⟨a.b0, 0, none⟩)) ∧ W.cell? ⟨a.p, 10, none⟩ = some (.pointer (some ⟨a.b1, 0, none⟩)) ∧ W.cell? ⟨a.p, 11, none⟩ = some (.pointer (some ⟨a.b2, 0, none⟩)) ∧ W.cell? ⟨a.p, 12, none⟩ = some (.pointer (some ⟨a.b3, 0, none⟩))) := Lib.hid (fun W X => ⟨X.cell 0 rfl, X.cell 9 rfl, X.cell 10 rfl, X.cell 11 rfl, X.cell 12 rfl⟩)
  have HLt := Lib.hid (show a.p < w.heap.size from h.X.lt)
  clear hW0 X1 h ht hd HF
  go_enter Tryz.func51, Tryz.ntmps51
  go_wp2
  rw [← HW0.out]
  clear HW0
  go_loopw [5] (fun i wr => ∃ k : Nat, k ≤ 3 ∧ i = .int .i64 k ∧ Below w.heap.size w wr ∧ Hid (Box wr w.heap.size 82 #[.int .i64 0, .int .i64 0, .int .i64 0]) ∧ Hid (wr.rowIs (w.heap.size + 1) 115 3 (fun i => if i < k then .int .i64 (v i) else .int .i64 0))) (fun i _ => 3 - (intOf i).toNat)
  case atStart => exact ⟨0, by omega, rfl, hb0, X0, Lib.hid (R1.out.congr (fun i _ => by simp))⟩
  case round =>
    clear hb0 X0 R1
    obtain ⟨k, hk, rfl, hbw, X0, R1⟩ := hrel
    by_cases hlt : k < 3
    · have e1 : IntKind.i64.wrap (d.pc + (k : Int)) = d.pc + (k : Int) := IntWalk.i64_in _ (by omega)
      have e2 : (d.pc + (k : Int)).tmod 4096 = (d.pc + (k : Int)) % 4096 := Int.tmod_eq_emod_of_nonneg (by omega)
      have hi : (k : Int) < 3 := by omega
      have Pk := Lib.hid ((HP.out.step hbw).step (Below.refl _ _).drew)
      have HX0 : Hid (Box wr.drew a.p 59 (procC a d s)) := Lib.hid Pk.out.X
      have hk0 := HK.out _ (HP.out.step hbw).X
      obtain ⟨c0, c9, c10, c11, c12⟩ := hk0
      have hbd := hbw.drew
      have Xd := Lib.hid X0.out.drew
      have Rd := Lib.hid (row_below (Below.refl wr.heap.size wr).drew R1.out R1.out.lt)
      go_wp2
      go_region_held3 (fun W => W.cell? ⟨a.p, 0, none⟩ = some (.int .i64 d.pc) ∧ W.cell? ⟨a.p, 9, none⟩ = some (.pointer (some ⟨a.b0, 0, none⟩)) ∧ W.cell? ⟨a.p, 10, none⟩ = some (.pointer (some ⟨a.b1, 0, none⟩)) ∧ W.cell? ⟨a.p, 11, none⟩ = some (.pointer (some ⟨a.b2, 0, none⟩)) ∧ W.cell? ⟨a.p, 12, none⟩ = some (.pointer (some ⟨a.b3, 0, none⟩)))
        (first | (with_reducible exact HK.out _ HX0.out) | (with_reducible exact HK.out _ HX1.out) | (with_reducible exact HK.out _ HX2.out))
        (first | (go_at_call 81; refine (HRd.out _ k Pk.out.B).mono ?_; rintro e w1 ⟨rfl, hb1⟩; have HX1 := Lib.hid (HX0.out.step hb1); have Q3 := row_below hb1 Rd.out Rd.out.lt; have y0 := Q3.cell (i := k) hlt; have y1 := Q3.frozen k; simp only [Nat.lt_irrefl, if_false] at y0; have HS3 := Lib.hid (Q3.set k (.int .i64 (v k))); have Y0 := Lib.hid (Xd.out.step hb1); have hbz := bt hbd hb1; have HX2 := Lib.hid (HX1.out.far (p := ⟨w.heap.size + 1, k, none⟩) (by have := HLt.out; show a.p ≠ w.heap.size + 1; omega) (.int .i64 (v k))); clear Q3))
      go_wp2
      go_roundw
      case rel =>
        refine ⟨k + 1, by omega, by go_num, hbz.setCell (by show w.heap.size ≤ w.heap.size + 1; omega) _, Lib.hid (Y0.out.far (by show w.heap.size ≠ w.heap.size + 1; omega) _), Lib.hid (HS3.out.congr (fun i _ => ?_))⟩
        show (if i = k then Value.int .i64 (v k) else if i < k then _ else _) = _
        by_cases e : i = k
        · subst e; rw [if_pos rfl, if_pos (by omega)]
        · rw [if_neg e]
          by_cases e2 : i < k
          · rw [if_pos e2, if_pos (by omega)]
          · rw [if_neg e2, if_neg (by omega)]
      case measure => simp [intOf]; omega
    · obtain rfl : k = 3 := by omega
      have v0 := R1.out.cell (i := 0) (by omega)
      have v1 := R1.out.cell (i := 1) (by omega)
      have v2 := R1.out.cell (i := 2) (by omega)
      simp only [show (0 : Nat) < 3 by omega, show (1 : Nat) < 3 by omega, show (2 : Nat) < 3 by omega, if_true] at v0 v1 v2
      have r0 := HV.out 0
      have r1 := HV.out 1
      have r2 := HV.out 2
      have HD := Lib.hid (decodeI (w := wr) _ _ _ (ha0 := r0.1) (ha1 := r0.2) (hb0 := r1.1) (hb1 := r1.2) (hc0 := r2.1) (hc1 := r2.2) (ht := HT.out.below hbw))
      clear r0 r1 r2 HV
      obtain ⟨x, hx⟩ : ∃ x, x = decV (v 0) (v 1) (v 2) := ⟨_, rfl⟩
      rw [← hx] at HD
      have HXx := Lib.hid hx
      clear hx
      obtain ⟨x0, x1, x2⟩ := x
      go_wp2_with fail
      refine HD.out.mono ?_
      rintro e w1 ⟨rfl, hb1⟩
      have Y0 := X0.out.step hb1
      have y0 := Y0.cell 0 rfl
      have y1 := Y0.cell 1 rfl
      have y2 := Y0.cell 2 rfl
      have z0 := Y0.frozen 0
      have z1 := Y0.frozen 1
      have z2 := Y0.frozen 2
      have hbz := bt hbw hb1
      clear v0 v1 v2 X0 R1
      go_wp2
      obtain ⟨V1, hV1⟩ : ∃ V1, V1 = ((w1.setCell ⟨w.heap.size, 0, none⟩ (.int .i64 x0)).setCell ⟨w.heap.size, 1, none⟩ (.int .i64 x1)).setCell ⟨w.heap.size, 2, none⟩ (.int .i64 x2) := ⟨_, rfl⟩
      have q0 : Box V1 w.heap.size 82 #[.int .i64 x0, .int .i64 x1, .int .i64 x2] := by rw [hV1]; exact ((Y0.set 0 (.int .i64 x0)).set 1 (.int .i64 x1)).set 2 (.int .i64 x2)
      have B1 : Below w.heap.size w V1 := by rw [hV1]; exact (((hbz.setCell (p := ⟨w.heap.size, 0, none⟩) (Nat.le_refl _) _).setCell (p := ⟨w.heap.size, 1, none⟩) (Nat.le_refl _) _).setCell (p := ⟨w.heap.size, 2, none⟩) (Nat.le_refl _) _)
      rw [← hV1]
      clear hV1
      have s0 := q0.cell 0 rfl
      have s1 := q0.cell 1 rfl
      have s2 := q0.cell 2 rfl
      refine bodyPost_ret (v := .agg #[.int .i64 x0, .int .i64 x1, .int .i64 x2]) (by simp [results, Tryz.results51, go_sem, s0, s1, s2]) rfl ?_
      exact ⟨by rw [← HXx.out], Lib.hid B1⟩
end Go.Proofs.YtcchhbkbnbphhaaGreatDoor
