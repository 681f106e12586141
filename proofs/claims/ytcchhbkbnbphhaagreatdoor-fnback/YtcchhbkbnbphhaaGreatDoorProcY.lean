/- What the program's instructions do to its processor, each by its method. Written by gen_procy.py. -/
import Derived.Test.YtcchhbkbnbphhaaGreatDoorProcX
import Derived.Test.YtcchhbkbnbphhaaGreatDoorCpuStep
namespace Go.Proofs.YtcchhbkbnbphhaaGreatDoor
open Go.RowKit

set_option maxRecDepth 100000 in
set_option maxHeartbeats 4000000 in
theorem prNop (a : PA) (d : CD) (m : MD) (s op reg arg : Int) (w : World) (hd : d.Ok) (hm : m.Ok) (h : PrAt w a d m s) :
    Calls Tryz.prog 83 #[.pointer (some ⟨a.p, 0, none⟩), .agg #[.int .i64 op, .int .i64 reg, .int .i64 arg]] w (GPr a (d) (m) (s) w) := by
  obtain ⟨W0, hW0⟩ : ∃ W0, W0 = w.alloc (.cells #[.int .i64 op, .int .i64 reg, .int .i64 arg] 82) := ⟨_, rfl⟩
  have hb0 : Below w.heap.size w W0 := by rw [hW0]; exact alloc_below _ _
  have X0 : Hid (Box W0 w.heap.size 82 #[.int .i64 op, .int .i64 reg, .int .i64 arg]) := Lib.hid (by rw [hW0]; exact Box.new _ _ _)
  have P0 := Lib.hid (h.step hb0)
  have R0 : Hid (Runs a.L w W0) := Lib.hid (Runs.below hb0 h.size)
  have HW0 := Lib.hid hW0
  clear hW0 hb0 h
  go_enter Tryz.func83, Tryz.ntmps83
  go_wp2
  rw [← HW0.out]
  go_end0
  exact ⟨rfl, P0, R0⟩

set_option maxRecDepth 100000 in
set_option maxHeartbeats 4000000 in
theorem prHalt (a : PA) (d : CD) (m : MD) (s op reg arg : Int) (w : World) (hd : d.Ok) (hm : m.Ok) (h : PrAt w a d m s) :
    Calls Tryz.prog 84 #[.pointer (some ⟨a.p, 0, none⟩), .agg #[.int .i64 op, .int .i64 reg, .int .i64 arg]] w (GPr a ({ d with halt := true }) (m) (s) w) := by
  obtain ⟨W0, hW0⟩ : ∃ W0, W0 = w.alloc (.cells #[.int .i64 op, .int .i64 reg, .int .i64 arg] 82) := ⟨_, rfl⟩
  have hb0 : Below w.heap.size w W0 := by rw [hW0]; exact alloc_below _ _
  have X0 : Hid (Box W0 w.heap.size 82 #[.int .i64 op, .int .i64 reg, .int .i64 arg]) := Lib.hid (by rw [hW0]; exact Box.new _ _ _)
  have P0 := Lib.hid (h.step hb0)
  have R0 : Hid (Runs a.L w W0) := Lib.hid (Runs.below hb0 h.size)
  have HW0 := Lib.hid hW0
  clear hW0 hb0 h
  obtain ⟨⟨_, _, _, _, _, _, _, c7, _⟩, ⟨_, _, _, _, _⟩, cz⟩ := P0.out.cells
  have z7 := cz 7
  rw [HW0.out] at c7 z7
  clear cz
  go_enter Tryz.func84, Tryz.ntmps84
  go_wp2
  rw [← HW0.out]
  go_end0
  exact ⟨rfl, Lib.hid (P0.out.put 7 _ { d with halt := true } s rfl rfl), Lib.hid (R0.out.trans (P0.out.runs (Nat.le_refl _) 7 _))⟩

set_option maxRecDepth 100000 in
set_option maxHeartbeats 4000000 in
theorem prEi (a : PA) (d : CD) (m : MD) (s op reg arg : Int) (w : World) (hd : d.Ok) (hm : m.Ok) (h : PrAt w a d m s) :
    Calls Tryz.prog 86 #[.pointer (some ⟨a.p, 0, none⟩), .agg #[.int .i64 op, .int .i64 reg, .int .i64 arg]] w (GPr a ({ d with on := true }) (m) (s) w) := by
  obtain ⟨W0, hW0⟩ : ∃ W0, W0 = w.alloc (.cells #[.int .i64 op, .int .i64 reg, .int .i64 arg] 82) := ⟨_, rfl⟩
  have hb0 : Below w.heap.size w W0 := by rw [hW0]; exact alloc_below _ _
  have X0 : Hid (Box W0 w.heap.size 82 #[.int .i64 op, .int .i64 reg, .int .i64 arg]) := Lib.hid (by rw [hW0]; exact Box.new _ _ _)
  have P0 := Lib.hid (h.step hb0)
  have R0 : Hid (Runs a.L w W0) := Lib.hid (Runs.below hb0 h.size)
  have HW0 := Lib.hid hW0
  clear hW0 hb0 h
  obtain ⟨⟨_, _, _, _, _, _, c6, _, _⟩, ⟨_, _, _, _, _⟩, cz⟩ := P0.out.cells
  have z6 := cz 6
  rw [HW0.out] at c6 z6
  clear cz
  go_enter Tryz.func86, Tryz.ntmps86
  go_wp2
  rw [← HW0.out]
  go_end0
  exact ⟨rfl, Lib.hid (P0.out.put 6 _ { d with on := true } s rfl rfl), Lib.hid (R0.out.trans (P0.out.runs (Nat.le_refl _) 6 _))⟩

set_option maxRecDepth 100000 in
set_option maxHeartbeats 4000000 in
theorem prDi (a : PA) (d : CD) (m : MD) (s op reg arg : Int) (w : World) (hd : d.Ok) (hm : m.Ok) (h : PrAt w a d m s) :
    Calls Tryz.prog 87 #[.pointer (some ⟨a.p, 0, none⟩), .agg #[.int .i64 op, .int .i64 reg, .int .i64 arg]] w (GPr a ({ d with on := false }) (m) (s) w) := by
  obtain ⟨W0, hW0⟩ : ∃ W0, W0 = w.alloc (.cells #[.int .i64 op, .int .i64 reg, .int .i64 arg] 82) := ⟨_, rfl⟩
  have hb0 : Below w.heap.size w W0 := by rw [hW0]; exact alloc_below _ _
  have X0 : Hid (Box W0 w.heap.size 82 #[.int .i64 op, .int .i64 reg, .int .i64 arg]) := Lib.hid (by rw [hW0]; exact Box.new _ _ _)
  have P0 := Lib.hid (h.step hb0)
  have R0 : Hid (Runs a.L w W0) := Lib.hid (Runs.below hb0 h.size)
  have HW0 := Lib.hid hW0
  clear hW0 hb0 h
  obtain ⟨⟨_, _, _, _, _, _, c6, _, _⟩, ⟨_, _, _, _, _⟩, cz⟩ := P0.out.cells
  have z6 := cz 6
  rw [HW0.out] at c6 z6
  clear cz
  go_enter Tryz.func87, Tryz.ntmps87
  go_wp2
  rw [← HW0.out]
  go_end0
  exact ⟨rfl, Lib.hid (P0.out.put 6 _ { d with on := false } s rfl rfl), Lib.hid (R0.out.trans (P0.out.runs (Nat.le_refl _) 6 _))⟩

set_option maxRecDepth 100000 in
set_option maxHeartbeats 4000000 in
theorem prJp (a : PA) (d : CD) (m : MD) (s op reg arg : Int) (w : World) (hd : d.Ok) (hm : m.Ok) (h : PrAt w a d m s) :
    Calls Tryz.prog 99 #[.pointer (some ⟨a.p, 0, none⟩), .agg #[.int .i64 op, .int .i64 reg, .int .i64 arg]] w (GPr a (d.at arg) (m) (s) w) := by
  obtain ⟨W0, hW0⟩ : ∃ W0, W0 = w.alloc (.cells #[.int .i64 op, .int .i64 reg, .int .i64 arg] 82) := ⟨_, rfl⟩
  have hb0 : Below w.heap.size w W0 := by rw [hW0]; exact alloc_below _ _
  have X0 : Hid (Box W0 w.heap.size 82 #[.int .i64 op, .int .i64 reg, .int .i64 arg]) := Lib.hid (by rw [hW0]; exact Box.new _ _ _)
  have P0 := Lib.hid (h.step hb0)
  have R0 : Hid (Runs a.L w W0) := Lib.hid (Runs.below hb0 h.size)
  have HW0 := Lib.hid hW0
  clear hW0 hb0 h
  obtain ⟨⟨c0, _, _, _, _, _, _, _, _⟩, ⟨_, _, _, _, _⟩, cz⟩ := P0.out.cells
  have z0 := cz 0
  rw [HW0.out] at c0 z0
  clear cz
  go_enter Tryz.func99, Tryz.ntmps99
  go_wp2
  rw [← HW0.out]
  go_end0
  exact ⟨rfl, Lib.hid (P0.out.put 0 _ (d.at arg) s rfl rfl), Lib.hid (R0.out.trans (P0.out.runs (Nat.le_refl _) 0 _))⟩

set_option maxRecDepth 100000 in
set_option maxHeartbeats 4000000 in
theorem prBank (a : PA) (d : CD) (m : MD) (s op reg arg : Int) (w : World) (hd : d.Ok) (hm : m.Ok) (h : PrAt w a d m s) :
    Calls Tryz.prog 105 #[.pointer (some ⟨a.p, 0, none⟩), .agg #[.int .i64 op, .int .i64 reg, .int .i64 arg]] w (GPr a ({ d with bank := arg }) (m) (s) w) := by
  obtain ⟨W0, hW0⟩ : ∃ W0, W0 = w.alloc (.cells #[.int .i64 op, .int .i64 reg, .int .i64 arg] 82) := ⟨_, rfl⟩
  have hb0 : Below w.heap.size w W0 := by rw [hW0]; exact alloc_below _ _
  have X0 : Hid (Box W0 w.heap.size 82 #[.int .i64 op, .int .i64 reg, .int .i64 arg]) := Lib.hid (by rw [hW0]; exact Box.new _ _ _)
  have P0 := Lib.hid (h.step hb0)
  have R0 : Hid (Runs a.L w W0) := Lib.hid (Runs.below hb0 h.size)
  have HW0 := Lib.hid hW0
  clear hW0 hb0 h
  obtain ⟨⟨_, _, c2, _, _, _, _, _, _⟩, ⟨_, _, _, _, _⟩, cz⟩ := P0.out.cells
  have z2 := cz 2
  rw [HW0.out] at c2 z2
  clear cz
  go_enter Tryz.func105, Tryz.ntmps105
  go_wp2
  rw [← HW0.out]
  go_end0
  exact ⟨rfl, Lib.hid (P0.out.put 2 _ { d with bank := arg } s rfl rfl), Lib.hid (R0.out.trans (P0.out.runs (Nat.le_refl _) 2 _))⟩

set_option maxRecDepth 100000 in
set_option maxHeartbeats 4000000 in
theorem prRequest (a : PA) (d : CD) (m : MD) (s op reg arg : Int) (w : World) (hd : d.Ok) (hm : m.Ok) (h : PrAt w a d m s) :
    Calls Tryz.prog 104 #[.pointer (some ⟨a.p, 0, none⟩), .agg #[.int .i64 op, .int .i64 reg, .int .i64 arg]] w (GPr a (d) (m) (arg) w) := by
  obtain ⟨W0, hW0⟩ : ∃ W0, W0 = w.alloc (.cells #[.int .i64 op, .int .i64 reg, .int .i64 arg] 82) := ⟨_, rfl⟩
  have hb0 : Below w.heap.size w W0 := by rw [hW0]; exact alloc_below _ _
  have X0 : Hid (Box W0 w.heap.size 82 #[.int .i64 op, .int .i64 reg, .int .i64 arg]) := Lib.hid (by rw [hW0]; exact Box.new _ _ _)
  have P0 := Lib.hid (h.step hb0)
  have R0 : Hid (Runs a.L w W0) := Lib.hid (Runs.below hb0 h.size)
  have HW0 := Lib.hid hW0
  clear hW0 hb0 h
  obtain ⟨⟨_, _, _, _, _, _, _, _, _⟩, ⟨_, _, _, _, c13⟩, cz⟩ := P0.out.cells
  have z13 := cz 13
  rw [HW0.out] at c13 z13
  clear cz
  go_enter Tryz.func104, Tryz.ntmps104
  go_wp2
  rw [← HW0.out]
  go_end0
  exact ⟨rfl, Lib.hid (P0.out.put 13 _ d arg rfl rfl), Lib.hid (R0.out.trans (P0.out.runs (Nat.le_refl _) 13 _))⟩

set_option maxRecDepth 100000 in
set_option maxHeartbeats 4000000 in
theorem prLdi (a : PA) (d : CD) (m : MD) (s op reg arg : Int) (w : World) (hr : 0 ≤ reg ∧ reg ≤ 3) (hd : d.Ok) (hm : m.Ok) (h : PrAt w a d m s) :
    Calls Tryz.prog 88 #[.pointer (some ⟨a.p, 0, none⟩), .agg #[.int .i64 op, .int .i64 reg, .int .i64 arg]] w (GPr a (d.set reg arg) (m) (s) w) := by
  obtain ⟨W0, hW0⟩ : ∃ W0, W0 = w.alloc (.cells #[.int .i64 op, .int .i64 reg, .int .i64 arg] 82) := ⟨_, rfl⟩
  have hb0 : Below w.heap.size w W0 := by rw [hW0]; exact alloc_below _ _
  have X0 : Hid (Box W0 w.heap.size 82 #[.int .i64 op, .int .i64 reg, .int .i64 arg]) := Lib.hid (by rw [hW0]; exact Box.new _ _ _)
  have P0 := Lib.hid (h.step hb0)
  have R0 : Hid (Runs a.L w W0) := Lib.hid (Runs.below hb0 h.size)
  have HW0 := Lib.hid hW0
  clear hW0 hb0 h
  have x0 := X0.out.cell 0 rfl
  have x1 := X0.out.cell 1 rfl
  have x2 := X0.out.cell 2 rfl
  rw [HW0.out] at x0 x1 x2
  have H1 := Lib.hid (fun W (q : PrAt W a d m s) => prSetReg a d m s W reg arg hr hd hm q)
  unfold GPr at H1
  go_enter Tryz.func88, Tryz.ntmps88
  go_wp2_with fail
  rw [← HW0.out]
  refine (H1.out _ P0.out).mono ?_
  rintro e w1 ⟨rfl, P1, R1⟩
  clear x0 x1 x2
  go_wp2
  go_end0
  exact ⟨rfl, P1, Lib.hid (R0.out.trans R1.out)⟩

set_option maxRecDepth 100000 in
set_option maxHeartbeats 4000000 in
theorem prCall (a : PA) (d : CD) (m : MD) (s op reg arg : Int) (w : World) (hd : d.Ok) (hm : m.Ok) (h : PrAt w a d m s) :
    Calls Tryz.prog 102 #[.pointer (some ⟨a.p, 0, none⟩), .agg #[.int .i64 op, .int .i64 reg, .int .i64 arg]] w (GPr a (callD d arg) (callM d m) (s) w) := by
  obtain ⟨W0, hW0⟩ : ∃ W0, W0 = w.alloc (.cells #[.int .i64 op, .int .i64 reg, .int .i64 arg] 82) := ⟨_, rfl⟩
  have hb0 : Below w.heap.size w W0 := by rw [hW0]; exact alloc_below _ _
  have X0 : Hid (Box W0 w.heap.size 82 #[.int .i64 op, .int .i64 reg, .int .i64 arg]) := Lib.hid (by rw [hW0]; exact Box.new _ _ _)
  have P0 := Lib.hid (h.step hb0)
  have R0 : Hid (Runs a.L w W0) := Lib.hid (Runs.below hb0 h.size)
  have HW0 := Lib.hid hW0
  clear hW0 hb0 h
  have x0 := X0.out.cell 0 rfl
  have x1 := X0.out.cell 1 rfl
  have x2 := X0.out.cell 2 rfl
  rw [HW0.out] at x0 x1 x2
  have H1 := Lib.hid (fun W (q : PrAt W a d m s) => prCallAt a d m s W arg hd hm q)
  unfold GPr at H1
  go_enter Tryz.func102, Tryz.ntmps102
  go_wp2_with fail
  rw [← HW0.out]
  refine (H1.out _ P0.out).mono ?_
  rintro e w1 ⟨rfl, P1, R1⟩
  clear x0 x1 x2
  go_wp2
  go_end0
  exact ⟨rfl, P1, Lib.hid (R0.out.trans R1.out)⟩

set_option maxRecDepth 100000 in
set_option maxHeartbeats 4000000 in
theorem prTrap (a : PA) (d : CD) (m : MD) (s op reg arg : Int) (w : World) (hd : d.Ok) (hm : m.Ok) (h : PrAt w a d m s) :
    Calls Tryz.prog 106 #[.pointer (some ⟨a.p, 0, none⟩), .agg #[.int .i64 op, .int .i64 reg, .int .i64 arg]] w (GPr a (callD d 752) (callM d m) (s) w) := by
  obtain ⟨W0, hW0⟩ : ∃ W0, W0 = w.alloc (.cells #[.int .i64 op, .int .i64 reg, .int .i64 arg] 82) := ⟨_, rfl⟩
  have hb0 : Below w.heap.size w W0 := by rw [hW0]; exact alloc_below _ _
  have X0 : Hid (Box W0 w.heap.size 82 #[.int .i64 op, .int .i64 reg, .int .i64 arg]) := Lib.hid (by rw [hW0]; exact Box.new _ _ _)
  have P0 := Lib.hid (h.step hb0)
  have R0 : Hid (Runs a.L w W0) := Lib.hid (Runs.below hb0 h.size)
  have HW0 := Lib.hid hW0
  clear hW0 hb0 h
  have x0 := X0.out.cell 0 rfl
  have x1 := X0.out.cell 1 rfl
  have x2 := X0.out.cell 2 rfl
  rw [HW0.out] at x0 x1 x2
  have H1 := Lib.hid (fun W (q : PrAt W a d m s) => prCallAt a d m s W 752 hd hm q)
  unfold GPr at H1
  go_enter Tryz.func106, Tryz.ntmps106
  go_wp2_with fail
  rw [← HW0.out]
  refine (H1.out _ P0.out).mono ?_
  rintro e w1 ⟨rfl, P1, R1⟩
  clear x0 x1 x2
  go_wp2
  go_end0
  exact ⟨rfl, P1, Lib.hid (R0.out.trans R1.out)⟩

set_option maxRecDepth 100000 in
set_option maxHeartbeats 4000000 in
theorem prJz (a : PA) (d : CD) (m : MD) (s op reg arg : Int) (w : World) (hd : d.Ok) (hm : m.Ok) (h : PrAt w a d m s) :
    Calls Tryz.prog 100 #[.pointer (some ⟨a.p, 0, none⟩), .agg #[.int .i64 op, .int .i64 reg, .int .i64 arg]] w (GPr a (if d.zero then d.at arg else d) (m) (s) w) := by
  obtain ⟨W0, hW0⟩ : ∃ W0, W0 = w.alloc (.cells #[.int .i64 op, .int .i64 reg, .int .i64 arg] 82) := ⟨_, rfl⟩
  have hb0 : Below w.heap.size w W0 := by rw [hW0]; exact alloc_below _ _
  have X0 : Hid (Box W0 w.heap.size 82 #[.int .i64 op, .int .i64 reg, .int .i64 arg]) := Lib.hid (by rw [hW0]; exact Box.new _ _ _)
  have P0 := Lib.hid (h.step hb0)
  have R0 : Hid (Runs a.L w W0) := Lib.hid (Runs.below hb0 h.size)
  have HW0 := Lib.hid hW0
  clear hW0 hb0 h
  have H1 := Lib.hid (fun W (q : PrAt W a d m s) => prJp a d m s op reg arg W hd hm q)
  unfold GPr at H1
  obtain ⟨⟨_, _, _, _, c4, _, _, _, _⟩, ⟨_, _, _, _, _⟩, cz⟩ := P0.out.cells
  clear cz
  rw [HW0.out] at c4
  have x0 := X0.out.cell 0 rfl
  have x1 := X0.out.cell 1 rfl
  have x2 := X0.out.cell 2 rfl
  rw [HW0.out] at x0 x1 x2
  generalize hz : d.zero = z at c4 ⊢
  have HZ := Lib.hid hz
  clear hz
  cases z with
  | true =>
    go_enter Tryz.func100, Tryz.ntmps100
    go_wp2_with fail
    rw [← HW0.out]
    refine (H1.out _ P0.out).mono ?_
    rintro e w1 ⟨rfl, P1, R1⟩
    clear x0 x1 x2 c4
    go_wp2
    go_end0
    exact ⟨rfl, P1, Lib.hid (R0.out.trans R1.out)⟩
  | false =>
    go_enter Tryz.func100, Tryz.ntmps100
    go_wp2
    rw [← HW0.out]
    go_end0
    exact ⟨rfl, P0, R0⟩

set_option maxRecDepth 100000 in
set_option maxHeartbeats 4000000 in
theorem prJnz (a : PA) (d : CD) (m : MD) (s op reg arg : Int) (w : World) (hd : d.Ok) (hm : m.Ok) (h : PrAt w a d m s) :
    Calls Tryz.prog 101 #[.pointer (some ⟨a.p, 0, none⟩), .agg #[.int .i64 op, .int .i64 reg, .int .i64 arg]] w (GPr a (if d.zero then d else d.at arg) (m) (s) w) := by
  obtain ⟨W0, hW0⟩ : ∃ W0, W0 = w.alloc (.cells #[.int .i64 op, .int .i64 reg, .int .i64 arg] 82) := ⟨_, rfl⟩
  have hb0 : Below w.heap.size w W0 := by rw [hW0]; exact alloc_below _ _
  have X0 : Hid (Box W0 w.heap.size 82 #[.int .i64 op, .int .i64 reg, .int .i64 arg]) := Lib.hid (by rw [hW0]; exact Box.new _ _ _)
  have P0 := Lib.hid (h.step hb0)
  have R0 : Hid (Runs a.L w W0) := Lib.hid (Runs.below hb0 h.size)
  have HW0 := Lib.hid hW0
  clear hW0 hb0 h
  have H1 := Lib.hid (fun W (q : PrAt W a d m s) => prJp a d m s op reg arg W hd hm q)
  unfold GPr at H1
  obtain ⟨⟨_, _, _, _, c4, _, _, _, _⟩, ⟨_, _, _, _, _⟩, cz⟩ := P0.out.cells
  clear cz
  rw [HW0.out] at c4
  have x0 := X0.out.cell 0 rfl
  have x1 := X0.out.cell 1 rfl
  have x2 := X0.out.cell 2 rfl
  rw [HW0.out] at x0 x1 x2
  generalize hz : d.zero = z at c4 ⊢
  have HZ := Lib.hid hz
  clear hz
  cases z with
  | true =>
    go_enter Tryz.func101, Tryz.ntmps101
    go_wp2
    rw [← HW0.out]
    go_end0
    exact ⟨rfl, P0, R0⟩
  | false =>
    go_enter Tryz.func101, Tryz.ntmps101
    go_wp2_with fail
    rw [← HW0.out]
    refine (H1.out _ P0.out).mono ?_
    rintro e w1 ⟨rfl, P1, R1⟩
    clear x0 x1 x2 c4
    go_wp2
    go_end0
    exact ⟨rfl, P1, Lib.hid (R0.out.trans R1.out)⟩

set_option maxRecDepth 100000 in
set_option maxHeartbeats 4000000 in
theorem prLd (a : PA) (d : CD) (m : MD) (s op reg arg : Int) (w : World) (hr : 0 ≤ reg ∧ reg ≤ 3) (ha : 0 ≤ arg ∧ arg ≤ 4095) (hd : d.Ok) (hm : m.Ok) (h : PrAt w a d m s) :
    Calls Tryz.prog 89 #[.pointer (some ⟨a.p, 0, none⟩), .agg #[.int .i64 op, .int .i64 reg, .int .i64 arg]] w (GPr a (d.res reg (m.get arg)) (m) (s) w) := by
  obtain ⟨W0, hW0⟩ : ∃ W0, W0 = w.alloc (.cells #[.int .i64 op, .int .i64 reg, .int .i64 arg] 82) := ⟨_, rfl⟩
  have hb0 : Below w.heap.size w W0 := by rw [hW0]; exact alloc_below _ _
  have X0 : Hid (Box W0 w.heap.size 82 #[.int .i64 op, .int .i64 reg, .int .i64 arg]) := Lib.hid (by rw [hW0]; exact Box.new _ _ _)
  have P0 := Lib.hid (h.step hb0)
  have R0 : Hid (Runs a.L w W0) := Lib.hid (Runs.below hb0 h.size)
  have HW0 := Lib.hid hW0
  clear hW0 hb0 h
  have HRd := Lib.hid (fun W (q : BusAt W a.R a.g a.b0 a.b1 a.b2 a.b3 a.A0 a.A1 a.c0 a.c1 m.r m.i m.z m.g m.s) => busReadM a m W arg ha.1 ha.2 hm q)
  have HRs := Lib.hid (fun W (q : PrAt W a d m s) => prSetResult a d m s W reg (m.get arg) hr hd hm q)
  unfold GPr at HRs
  generalize m.get arg = x at HRd HRs ⊢
  have HX0 : Hid (Box W0.drew w.heap.size 82 #[.int .i64 op, .int .i64 reg, .int .i64 arg] ∧ ∃ d' s', Box W0.drew a.p 59 (procC a d' s')) := Lib.hid ⟨X0.out.drew, d, s, P0.out.X.drew⟩
  have HK : Hid (∀ W, (Box W w.heap.size 82 #[.int .i64 op, .int .i64 reg, .int .i64 arg] ∧ ∃ d' s', Box W a.p 59 (procC a d' s')) → W.cell? ⟨w.heap.size, 1, none⟩ = some (.int .i64 reg) ∧ W.cell? ⟨w.heap.size, 2, none⟩ = some (.int .i64 arg) ∧ W.cell? ⟨a.p, 9, none⟩ = some (.pointer (some ⟨a.b0, 0, none⟩)) ∧ W.cell? ⟨a.p, 10, none⟩ = some (.pointer (some ⟨a.b1, 0, none⟩)) ∧ W.cell? ⟨a.p, 11, none⟩ = some (.pointer (some ⟨a.b2, 0, none⟩)) ∧ W.cell? ⟨a.p, 12, none⟩ = some (.pointer (some ⟨a.b3, 0, none⟩))) := Lib.hid (fun W ⟨X, d', s', Y⟩ => ⟨X.cell 1 rfl, X.cell 2 rfl, Y.cell 9 rfl, Y.cell 10 rfl, Y.cell 11 rfl, Y.cell 12 rfl⟩)
  have Pd := Lib.hid (P0.out.step (Below.refl _ _).drew)
  have Rd := Lib.hid (R0.out.trans (Runs.drew a.L W0))
  have x0 := X0.out.cell 0 rfl
  have x1 := X0.out.cell 1 rfl
  have x2 := X0.out.cell 2 rfl
  rw [HW0.out] at x0 x1 x2
  obtain ⟨⟨_, _, _, _, _, _, _, _, _⟩, ⟨c9, c10, c11, c12, _⟩, cz⟩ := P0.out.cells
  rw [HW0.out] at c9 c10 c11 c12
  clear cz
  go_enter Tryz.func89, Tryz.ntmps89
  go_wp2
  rw [← HW0.out]
  go_region_held3 (fun W => W.cell? ⟨w.heap.size, 1, none⟩ = some (.int .i64 reg) ∧ W.cell? ⟨w.heap.size, 2, none⟩ = some (.int .i64 arg) ∧ W.cell? ⟨a.p, 9, none⟩ = some (.pointer (some ⟨a.b0, 0, none⟩)) ∧ W.cell? ⟨a.p, 10, none⟩ = some (.pointer (some ⟨a.b1, 0, none⟩)) ∧ W.cell? ⟨a.p, 11, none⟩ = some (.pointer (some ⟨a.b2, 0, none⟩)) ∧ W.cell? ⟨a.p, 12, none⟩ = some (.pointer (some ⟨a.b3, 0, none⟩)))
    (first | (with_reducible exact HK.out _ HX0.out) | (with_reducible exact HK.out _ HX1.out) | (with_reducible exact HK.out _ HX2.out))
    (first | (go_at_call 81; refine (HRd.out _ Pd.out.B).mono ?_; rintro e w1 ⟨rfl, hb1⟩; have HX1 : Hid (Box w1 w.heap.size 82 #[.int .i64 op, .int .i64 reg, .int .i64 arg] ∧ ∃ d' s', Box w1 a.p 59 (procC a d' s')) := Lib.hid ⟨HX0.out.1.step hb1, (by obtain ⟨_, d', s', Y⟩ := HX0.out; exact ⟨d', s', Y.step hb1⟩)⟩; have P1 := Lib.hid (Pd.out.step hb1)) | (go_at_call 120; refine (HRs.out _ P1.out).mono ?_; rintro e w2 ⟨rfl, P2, R2⟩; have HX2 : Hid (Box w2 w.heap.size 82 #[.int .i64 op, .int .i64 reg, .int .i64 arg] ∧ ∃ d' s', Box w2 a.p 59 (procC a d' s')) := Lib.hid (And.intro (R2.out.kb _ _ _ (by decide) (by decide) (by decide) HX1.out.1) ⟨_, _, P2.out.X⟩)))
  go_end0
  exact ⟨rfl, P2, Lib.hid (Rd.out.trans ((Runs.below hb1 Pd.out.size).trans R2.out))⟩

set_option maxRecDepth 100000 in
set_option maxHeartbeats 4000000 in
theorem prSt (a : PA) (d : CD) (m : MD) (s op reg arg : Int) (w : World) (hr : 0 ≤ reg ∧ reg ≤ 3) (ha : 0 ≤ arg ∧ arg ≤ 4095) (hd : d.Ok) (hm : m.Ok) (h : PrAt w a d m s) :
    Calls Tryz.prog 90 #[.pointer (some ⟨a.p, 0, none⟩), .agg #[.int .i64 op, .int .i64 reg, .int .i64 arg]] w (GPr a (d) (m.put arg (d.reg reg)) (s) w) := by
  obtain ⟨W0, hW0⟩ : ∃ W0, W0 = w.alloc (.cells #[.int .i64 op, .int .i64 reg, .int .i64 arg] 82) := ⟨_, rfl⟩
  have hb0 : Below w.heap.size w W0 := by rw [hW0]; exact alloc_below _ _
  have X0 : Hid (Box W0 w.heap.size 82 #[.int .i64 op, .int .i64 reg, .int .i64 arg]) := Lib.hid (by rw [hW0]; exact Box.new _ _ _)
  have P0 := Lib.hid (h.step hb0)
  have R0 : Hid (Runs a.L w W0) := Lib.hid (Runs.below hb0 h.size)
  have HW0 := Lib.hid hW0
  clear hW0 hb0 h
  have hv := hd.reg hr.1 hr.2
  have HRg := Lib.hid (fun W (q : PrAt W a d m s) => prReg a d m s W reg hr hd hm q)
  unfold GPrI at HRg
  have HWt := Lib.hid (fun W (q : BusAt W a.R a.g a.b0 a.b1 a.b2 a.b3 a.A0 a.A1 a.c0 a.c1 m.r m.i m.z m.g m.s) => busWriteM a m W arg (d.reg reg) ha.1 ha.2 hv.1 hv.2 hm q)
  unfold WritesM at HWt
  generalize d.reg reg = x at HRg HWt ⊢
  have HX0 : Hid (Box W0.drew w.heap.size 82 #[.int .i64 op, .int .i64 reg, .int .i64 arg] ∧ ∃ d' s', Box W0.drew a.p 59 (procC a d' s')) := Lib.hid ⟨X0.out.drew, d, s, P0.out.X.drew⟩
  have HK : Hid (∀ W, (Box W w.heap.size 82 #[.int .i64 op, .int .i64 reg, .int .i64 arg] ∧ ∃ d' s', Box W a.p 59 (procC a d' s')) → W.cell? ⟨w.heap.size, 1, none⟩ = some (.int .i64 reg) ∧ W.cell? ⟨w.heap.size, 2, none⟩ = some (.int .i64 arg) ∧ W.cell? ⟨a.p, 9, none⟩ = some (.pointer (some ⟨a.b0, 0, none⟩)) ∧ W.cell? ⟨a.p, 10, none⟩ = some (.pointer (some ⟨a.b1, 0, none⟩)) ∧ W.cell? ⟨a.p, 11, none⟩ = some (.pointer (some ⟨a.b2, 0, none⟩)) ∧ W.cell? ⟨a.p, 12, none⟩ = some (.pointer (some ⟨a.b3, 0, none⟩))) := Lib.hid (fun W ⟨X, d', s', Y⟩ => ⟨X.cell 1 rfl, X.cell 2 rfl, Y.cell 9 rfl, Y.cell 10 rfl, Y.cell 11 rfl, Y.cell 12 rfl⟩)
  have Pd := Lib.hid (P0.out.step (Below.refl _ _).drew)
  have Rd := Lib.hid (R0.out.trans (Runs.drew a.L W0))
  have x0 := X0.out.cell 0 rfl
  have x1 := X0.out.cell 1 rfl
  have x2 := X0.out.cell 2 rfl
  rw [HW0.out] at x0 x1 x2
  obtain ⟨⟨_, _, _, _, _, _, _, _, _⟩, ⟨c9, c10, c11, c12, _⟩, cz⟩ := P0.out.cells
  rw [HW0.out] at c9 c10 c11 c12
  clear cz hv
  go_enter Tryz.func90, Tryz.ntmps90
  go_wp2
  rw [← HW0.out]
  go_region_held3 (fun W => W.cell? ⟨w.heap.size, 1, none⟩ = some (.int .i64 reg) ∧ W.cell? ⟨w.heap.size, 2, none⟩ = some (.int .i64 arg) ∧ W.cell? ⟨a.p, 9, none⟩ = some (.pointer (some ⟨a.b0, 0, none⟩)) ∧ W.cell? ⟨a.p, 10, none⟩ = some (.pointer (some ⟨a.b1, 0, none⟩)) ∧ W.cell? ⟨a.p, 11, none⟩ = some (.pointer (some ⟨a.b2, 0, none⟩)) ∧ W.cell? ⟨a.p, 12, none⟩ = some (.pointer (some ⟨a.b3, 0, none⟩)))
    (first | (with_reducible exact HK.out _ HX0.out) | (with_reducible exact HK.out _ HX1.out) | (with_reducible exact HK.out _ HX2.out))
    (first | (go_at_call 121; refine (HRg.out _ Pd.out).mono ?_; rintro e w1 ⟨rfl, P1, R1⟩; have HX1 : Hid (Box w1 w.heap.size 82 #[.int .i64 op, .int .i64 reg, .int .i64 arg] ∧ ∃ d' s', Box w1 a.p 59 (procC a d' s')) := Lib.hid (And.intro (R1.out.kb _ _ _ (by decide) (by decide) (by decide) HX0.out.1) ⟨_, _, P1.out.X⟩)) | (go_at_call 111; refine (HWt.out _ P1.out.B).mono ?_; rintro e w2 ⟨rfl, N1, N2, N3⟩; have P2 := Lib.hid (PrAt.wrote P1.out N1.out N2.out N3); have R2 := Lib.hid (Runs.wrote P1.out.q.1 N2.out N3); have HX2 : Hid (Box w2 w.heap.size 82 #[.int .i64 op, .int .i64 reg, .int .i64 arg] ∧ ∃ d' s', Box w2 a.p 59 (procC a d' s')) := Lib.hid (And.intro (N2.out _ _ _ (by decide) (by decide) HX1.out.1) ⟨_, _, P2.out.X⟩)))
  go_end0
  exact ⟨rfl, P2, Lib.hid (Rd.out.trans (R1.out.trans R2.out))⟩

set_option maxRecDepth 100000 in
set_option maxHeartbeats 4000000 in
theorem prInc (a : PA) (d : CD) (m : MD) (s op reg arg : Int) (w : World) (hr : 0 ≤ reg ∧ reg ≤ 3) (hd : d.Ok) (hm : m.Ok) (h : PrAt w a d m s) :
    Calls Tryz.prog 91 #[.pointer (some ⟨a.p, 0, none⟩), .agg #[.int .i64 op, .int .i64 reg, .int .i64 arg]] w (GPr a (d.res reg (d.reg reg + 1)) (m) (s) w) := by
  obtain ⟨W0, hW0⟩ : ∃ W0, W0 = w.alloc (.cells #[.int .i64 op, .int .i64 reg, .int .i64 arg] 82) := ⟨_, rfl⟩
  have hb0 : Below w.heap.size w W0 := by rw [hW0]; exact alloc_below _ _
  have X0 : Hid (Box W0 w.heap.size 82 #[.int .i64 op, .int .i64 reg, .int .i64 arg]) := Lib.hid (by rw [hW0]; exact Box.new _ _ _)
  have P0 := Lib.hid (h.step hb0)
  have R0 : Hid (Runs a.L w W0) := Lib.hid (Runs.below hb0 h.size)
  have HW0 := Lib.hid hW0
  clear hW0 hb0 h
  have hv := hd.reg hr.1 hr.2
  have HRg := Lib.hid (fun W (q : PrAt W a d m s) => prReg a d m s W reg hr hd hm q)
  unfold GPrI at HRg
  generalize d.reg reg = x at HRg hv ⊢
  have HRs := Lib.hid (fun W (q : PrAt W a d m s) => prSetResult a d m s W reg (x + 1) hr hd hm q)
  unfold GPr at HRs
  have e1 : IntKind.i64.wrap (x + 1) = x + 1 := IntWalk.i64_in _ (by omega)
  have HX0 : Hid (Box W0.drew w.heap.size 82 #[.int .i64 op, .int .i64 reg, .int .i64 arg]) := Lib.hid X0.out.drew
  have HK : Hid (∀ W, Box W w.heap.size 82 #[.int .i64 op, .int .i64 reg, .int .i64 arg] → W.cell? ⟨w.heap.size, 1, none⟩ = some (.int .i64 reg)) := Lib.hid (fun W X => X.cell 1 rfl)
  have Pd := Lib.hid (P0.out.step (Below.refl _ _).drew)
  have Rd := Lib.hid (R0.out.trans (Runs.drew a.L W0))
  have x0 := X0.out.cell 0 rfl
  have x1 := X0.out.cell 1 rfl
  have x2 := X0.out.cell 2 rfl
  rw [HW0.out] at x0 x1 x2
  clear hv
  go_enter Tryz.func91, Tryz.ntmps91
  go_wp2
  rw [← HW0.out]
  go_region_held3 (fun W => W.cell? ⟨w.heap.size, 1, none⟩ = some (.int .i64 reg))
    (first | (with_reducible exact HK.out _ HX0.out) | (with_reducible exact HK.out _ HX1.out) | (with_reducible exact HK.out _ HX2.out))
    (first | (go_at_call 121; refine (HRg.out _ Pd.out).mono ?_; rintro e w1 ⟨rfl, P1, R1⟩; have HX1 := Lib.hid (R1.out.kb _ _ _ (by decide) (by decide) (by decide) HX0.out)) | (go_at_call 120; refine (HRs.out _ P1.out).mono ?_; rintro e w2 ⟨rfl, P2, R2⟩; have HX2 := Lib.hid (R2.out.kb _ _ _ (by decide) (by decide) (by decide) HX1.out)))
  go_end0
  exact ⟨rfl, P2, Lib.hid (Rd.out.trans (R1.out.trans R2.out))⟩

set_option maxRecDepth 100000 in
set_option maxHeartbeats 4000000 in
theorem prDec (a : PA) (d : CD) (m : MD) (s op reg arg : Int) (w : World) (hr : 0 ≤ reg ∧ reg ≤ 3) (hd : d.Ok) (hm : m.Ok) (h : PrAt w a d m s) :
    Calls Tryz.prog 92 #[.pointer (some ⟨a.p, 0, none⟩), .agg #[.int .i64 op, .int .i64 reg, .int .i64 arg]] w (GPr a (d.res reg (d.reg reg - 1)) (m) (s) w) := by
  obtain ⟨W0, hW0⟩ : ∃ W0, W0 = w.alloc (.cells #[.int .i64 op, .int .i64 reg, .int .i64 arg] 82) := ⟨_, rfl⟩
  have hb0 : Below w.heap.size w W0 := by rw [hW0]; exact alloc_below _ _
  have X0 : Hid (Box W0 w.heap.size 82 #[.int .i64 op, .int .i64 reg, .int .i64 arg]) := Lib.hid (by rw [hW0]; exact Box.new _ _ _)
  have P0 := Lib.hid (h.step hb0)
  have R0 : Hid (Runs a.L w W0) := Lib.hid (Runs.below hb0 h.size)
  have HW0 := Lib.hid hW0
  clear hW0 hb0 h
  have hv := hd.reg hr.1 hr.2
  have HRg := Lib.hid (fun W (q : PrAt W a d m s) => prReg a d m s W reg hr hd hm q)
  unfold GPrI at HRg
  generalize d.reg reg = x at HRg hv ⊢
  have HRs := Lib.hid (fun W (q : PrAt W a d m s) => prSetResult a d m s W reg (x - 1) hr hd hm q)
  unfold GPr at HRs
  have e1 : IntKind.i64.wrap (x - 1) = x - 1 := IntWalk.i64_in _ (by omega)
  have HX0 : Hid (Box W0.drew w.heap.size 82 #[.int .i64 op, .int .i64 reg, .int .i64 arg]) := Lib.hid X0.out.drew
  have HK : Hid (∀ W, Box W w.heap.size 82 #[.int .i64 op, .int .i64 reg, .int .i64 arg] → W.cell? ⟨w.heap.size, 1, none⟩ = some (.int .i64 reg)) := Lib.hid (fun W X => X.cell 1 rfl)
  have Pd := Lib.hid (P0.out.step (Below.refl _ _).drew)
  have Rd := Lib.hid (R0.out.trans (Runs.drew a.L W0))
  have x0 := X0.out.cell 0 rfl
  have x1 := X0.out.cell 1 rfl
  have x2 := X0.out.cell 2 rfl
  rw [HW0.out] at x0 x1 x2
  clear hv
  go_enter Tryz.func92, Tryz.ntmps92
  go_wp2
  rw [← HW0.out]
  go_region_held3 (fun W => W.cell? ⟨w.heap.size, 1, none⟩ = some (.int .i64 reg))
    (first | (with_reducible exact HK.out _ HX0.out) | (with_reducible exact HK.out _ HX1.out) | (with_reducible exact HK.out _ HX2.out))
    (first | (go_at_call 121; refine (HRg.out _ Pd.out).mono ?_; rintro e w1 ⟨rfl, P1, R1⟩; have HX1 := Lib.hid (R1.out.kb _ _ _ (by decide) (by decide) (by decide) HX0.out)) | (go_at_call 120; refine (HRs.out _ P1.out).mono ?_; rintro e w2 ⟨rfl, P2, R2⟩; have HX2 := Lib.hid (R2.out.kb _ _ _ (by decide) (by decide) (by decide) HX1.out)))
  go_end0
  exact ⟨rfl, P2, Lib.hid (Rd.out.trans (R1.out.trans R2.out))⟩

set_option maxRecDepth 100000 in
set_option maxHeartbeats 4000000 in
theorem prRet (a : PA) (d : CD) (m : MD) (s op reg arg : Int) (w : World) (hd : d.Ok) (hm : m.Ok) (h : PrAt w a d m s) :
    Calls Tryz.prog 103 #[.pointer (some ⟨a.p, 0, none⟩), .agg #[.int .i64 op, .int .i64 reg, .int .i64 arg]] w (GPr a (backD d m) (m) (s) w) := by
  obtain ⟨W0, hW0⟩ : ∃ W0, W0 = w.alloc (.cells #[.int .i64 op, .int .i64 reg, .int .i64 arg] 82) := ⟨_, rfl⟩
  have hb0 : Below w.heap.size w W0 := by rw [hW0]; exact alloc_below _ _
  have X0 : Hid (Box W0 w.heap.size 82 #[.int .i64 op, .int .i64 reg, .int .i64 arg]) := Lib.hid (by rw [hW0]; exact Box.new _ _ _)
  have P0 := Lib.hid (h.step hb0)
  have R0 : Hid (Runs a.L w W0) := Lib.hid (Runs.below hb0 h.size)
  have HW0 := Lib.hid hW0
  clear hW0 hb0 h
  have hu := hd.up
  have HP1 := Lib.hid (fun W (q : PrAt W a d m s) => prPull a d m s W hd hm q)
  have HP2 := Lib.hid (fun W (q : PrAt W a d.up m s) => prPull a d.up m s W hu hm q)
  unfold GPrI at HP1 HP2
  have r1 := hm.get d.up.sp hu.sp.1 (by have := hu.sp; omega)
  have r2 := hm.get d.up.up.sp hu.up.sp.1 (by have := hu.up.sp; omega)
  have HV : Hid (backD d m = d.up.up.at ((m.get d.up.sp + 256 * m.get d.up.up.sp) % 4096)) := Lib.hid rfl
  rw [HV.out]
  generalize m.get d.up.sp = x at HP1 r1 ⊢
  generalize m.get d.up.up.sp = y at HP2 r2 ⊢
  generalize d.up = d1 at HP1 HP2 ⊢
  generalize d1.up = d2 at HP2 ⊢
  obtain ⟨r10, r11⟩ := r1
  obtain ⟨r20, r21⟩ := r2
  have e1 : (x + 256 * y).tmod 4096 = (x + 256 * y) % 4096 := Int.tmod_eq_emod_of_nonneg (by omega)
  clear hu HV
  go_enter Tryz.func103, Tryz.ntmps103
  go_wp2_with fail
  rw [← HW0.out]
  refine (HP1.out _ P0.out).mono ?_
  rintro e w1 ⟨rfl, P1, R1⟩
  go_wp2_with fail
  refine (HP2.out _ P1.out).mono ?_
  rintro e w2 ⟨rfl, P2, R2⟩
  obtain ⟨⟨c0, _, _, _, _, _, _, _, _⟩, ⟨_, _, _, _, _⟩, cz⟩ := P2.out.cells
  have z0 := cz 0
  clear cz
  go_wp2
  go_end0
  exact ⟨rfl, Lib.hid (P2.out.put 0 _ (d2.at ((x + 256 * y) % 4096)) s rfl rfl), Lib.hid (R0.out.trans (R1.out.trans (R2.out.trans (P2.out.runs (Nat.le_refl _) 0 _))))⟩

set_option maxRecDepth 100000 in
set_option maxHeartbeats 4000000 in
theorem prReti (a : PA) (d : CD) (m : MD) (s op reg arg : Int) (w : World) (hd : d.Ok) (hm : m.Ok) (h : PrAt w a d m s) :
    Calls Tryz.prog 85 #[.pointer (some ⟨a.p, 0, none⟩), .agg #[.int .i64 op, .int .i64 reg, .int .i64 arg]] w (GPr a (retiD d m) (m) (s) w) := by
  obtain ⟨W0, hW0⟩ : ∃ W0, W0 = w.alloc (.cells #[.int .i64 op, .int .i64 reg, .int .i64 arg] 82) := ⟨_, rfl⟩
  have hb0 : Below w.heap.size w W0 := by rw [hW0]; exact alloc_below _ _
  have X0 : Hid (Box W0 w.heap.size 82 #[.int .i64 op, .int .i64 reg, .int .i64 arg]) := Lib.hid (by rw [hW0]; exact Box.new _ _ _)
  have P0 := Lib.hid (h.step hb0)
  have R0 : Hid (Runs a.L w W0) := Lib.hid (Runs.below hb0 h.size)
  have HW0 := Lib.hid hW0
  clear hW0 hb0 h
  have hu := hd.up
  have HP1 := Lib.hid (fun W (q : PrAt W a d m s) => prPull a d m s W hd hm q)
  unfold GPrI at HP1
  have r1 := hm.get d.up.sp hu.sp.1 (by have := hu.sp; omega)
  have HF := Lib.hid (fun W (q : PrAt W a d.up m s) => prSetFlags a d.up m s W (m.get d.up.sp) r1 q)
  have HB := Lib.hid (fun W (q : PrAt W a (d.up.toFlags (m.get d.up.sp)) m s) => prRet a (d.up.toFlags (m.get d.up.sp)) m s op reg arg W (hu.toFlags _) hm q)
  unfold GPr at HF HB
  have HV : Hid (retiD d m = backD (d.up.toFlags (m.get d.up.sp)) m) := Lib.hid rfl
  rw [HV.out]
  generalize m.get d.up.sp = x at HP1 HF HB ⊢
  generalize d.up.toFlags x = d2 at HF HB ⊢
  generalize d.up = d1 at HP1 HF ⊢
  generalize backD d2 m = d3 at HB ⊢
  clear hu HV r1
  have x0 := X0.out.cell 0 rfl
  have x1 := X0.out.cell 1 rfl
  have x2 := X0.out.cell 2 rfl
  rw [HW0.out] at x0 x1 x2
  go_enter Tryz.func85, Tryz.ntmps85
  go_wp2_with fail
  rw [← HW0.out]
  refine (HP1.out _ P0.out).mono ?_
  rintro e w1 ⟨rfl, P1, R1⟩
  have X1 := Lib.hid (R1.out.kb _ _ _ (by decide) (by decide) (by decide) X0.out)
  clear x0 x1 x2
  go_wp2_with fail
  refine (HF.out _ P1.out).mono ?_
  rintro e w2 ⟨rfl, P2, R2⟩
  have X2 := Lib.hid (R2.out.kb _ _ _ (by decide) (by decide) (by decide) X1.out)
  have x0 := X2.out.cell 0 rfl
  have x1 := X2.out.cell 1 rfl
  have x2 := X2.out.cell 2 rfl
  go_wp2_with fail
  refine (HB.out _ P2.out).mono ?_
  rintro e w3 ⟨rfl, P3, R3⟩
  clear x0 x1 x2
  go_wp2
  go_end0
  exact ⟨rfl, P3, Lib.hid (R0.out.trans (R1.out.trans (R2.out.trans R3.out)))⟩
end Go.Proofs.YtcchhbkbnbphhaaGreatDoor
