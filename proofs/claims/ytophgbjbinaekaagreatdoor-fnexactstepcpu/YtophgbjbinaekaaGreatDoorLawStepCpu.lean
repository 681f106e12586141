/- For every Cpu and Mem, laws.FnExactStepCpu returns true: impl.StepCpu answers as the model spec.StepCpu, every field, leaves its arguments alone, and its result is memory of its own. Condition: the listed tables start as the program's text lays them (the card ties them to it). -/
import Derived.Test.YtophgbjbinaekaaGreatDoorM14
import Derived.Test.YtophgbjbinaekaaGreatDoorGenCpu
import Derived.Test.YtophgbjbinaekaaGreatDoorM5
import Derived.Test.YtophgbjbinaekaaGreatDoorM9
import Derived.Test.YtophgbjbinaekaaGreatDoorGenOpen
import Derived.Test.YtophgbjbinaekaaGreatDoorM6
import Derived.Test.YtophgbjbinaekaaGreatDoorFactA
import Derived.Test.YtophgbjbinaekaaGreatDoorFactB
import Derived.Test.YtophgbjbinaekaaGreatDoorFactC
import Derived.Test.YtophgbjbinaekaaGreatDoorFactD
import Derived.Deep.RegionHeld3
import Derived.ProofKit
import Derived.OpenShut
import Derived.ShutString
import Derived.ChangeOld
namespace Go.Proofs.YtophgbjbinaekaaGreatDoor.fnExactStepCpu
open Go.RowKit

def rgw (s : Nat) (a0vA8 : Option Addr) (a0vc8 : Nat) (a0d0 : Int) (a0d1 : Int) (a0d2 : Int) (a0d3 : Int) (a0d4 : Bool) (a0d5 : Bool) (a0d6 : Bool) (a0d7 : Bool) (a0d8 : List Int) (a1vA0 a1vA1 a1vA2 a1vA3 : Option Addr) (a1vc0 a1vc1 a1vc2 a1vc3 : Nat) (a1d0 : List Int) (a1d1 : List Int) (a1d2 : List Int) (a1d3 : List Bool) (a1d4 : Int) (r0d0 : Int) (r0d1 : Int) (r0d2 : Int) (r0d3 : Int) (r0d4 : Bool) (r0d5 : Bool) (r0d6 : Bool) (r0d7 : Bool) (r0d8 : List Int) (r1d0 : List Int) (r1d1 : List Int) (r1d2 : List Int) (r1d3 : List Bool) (r1d4 : Int) (r2d0 : Int) (r3d0 : Int) (r4d0 : Int) : Nat → (Nat → Value) → World → Prop
  | 0, t, _ => t 37 = .agg #[.int .i64 a0d0, .int .i64 a0d1, .int .i64 a0d2, .int .i64 a0d3, .bool a0d4, .bool a0d5, .bool a0d6, .bool a0d7, .slice a0vA8 a0d8.length a0vc8]
  | 1, t, W => ∃ u0vA8 u0vc8, t 38 = .agg #[.int .i64 a0d0, .int .i64 a0d1, .int .i64 a0d2, .int .i64 a0d3, .bool a0d4, .bool a0d5, .bool a0d6, .bool a0d7, .slice u0vA8 a0d8.length u0vc8] ∧ OwnA W s W.heap.size [.slice u0vA8 a0d8.length u0vc8] [Lf.I a0d8] ∧ CapA [.slice u0vA8 a0d8.length u0vc8]
  | 2, t, _ => t 39 = .agg #[.slice a1vA0 a1d0.length a1vc0, .slice a1vA1 a1d1.length a1vc1, .slice a1vA2 a1d2.length a1vc2, .slice a1vA3 a1d3.length a1vc3, .int .i64 a1d4]
  | 3, t, W => ∃ u1vA0 u1vA1 u1vA2 u1vA3 u1vc0 u1vc1 u1vc2 u1vc3, t 40 = .agg #[.slice u1vA0 a1d0.length u1vc0, .slice u1vA1 a1d1.length u1vc1, .slice u1vA2 a1d2.length u1vc2, .slice u1vA3 a1d3.length u1vc3, .int .i64 a1d4] ∧ OwnA W s W.heap.size [.slice u1vA0 a1d0.length u1vc0, .slice u1vA1 a1d1.length u1vc1, .slice u1vA2 a1d2.length u1vc2, .slice u1vA3 a1d3.length u1vc3] [Lf.I a1d0, Lf.I a1d1, Lf.I a1d2, Lf.B a1d3] ∧ CapA [.slice u1vA0 a1d0.length u1vc0, .slice u1vA1 a1d1.length u1vc1, .slice u1vA2 a1d2.length u1vc2, .slice u1vA3 a1d3.length u1vc3]
  | 4, t, W => ∃ w0vA8 w1vA0 w1vA1 w1vA2 w1vA3 w0vc8 w1vc0 w1vc1 w1vc2 w1vc3, t 41 = .tuple #[.agg #[.int .i64 r0d0, .int .i64 r0d1, .int .i64 r0d2, .int .i64 r0d3, .bool r0d4, .bool r0d5, .bool r0d6, .bool r0d7, .slice w0vA8 r0d8.length w0vc8], .agg #[.slice w1vA0 r1d0.length w1vc0, .slice w1vA1 r1d1.length w1vc1, .slice w1vA2 r1d2.length w1vc2, .slice w1vA3 r1d3.length w1vc3, .int .i64 r1d4], .int .i64 r2d0, .int .i64 r3d0, .int .i64 r4d0] ∧ OwnA W s W.heap.size [.slice w0vA8 r0d8.length w0vc8, .slice w1vA0 r1d0.length w1vc0, .slice w1vA1 r1d1.length w1vc1, .slice w1vA2 r1d2.length w1vc2, .slice w1vA3 r1d3.length w1vc3] [Lf.I r0d8, Lf.I r1d0, Lf.I r1d1, Lf.I r1d2, Lf.B r1d3]
  | 5, t, _ => t 36 = t 41
  | 6, t, _ => t 42 = tupAt (t 41) 0
  | 7, t, _ => t 43 = tupAt (t 41) 1
  | 8, t, _ => t 44 = tupAt (t 41) 2
  | 9, t, _ => t 45 = tupAt (t 41) 3
  | 10, t, _ => t 46 = tupAt (t 41) 4
  | 11, t, W => ∃ b, t 6 = .pointer (some ⟨b, 0, none⟩) ∧ s ≤ b ∧ ∃ o : Array Value, o.size = 9 ∧ Box W b 25 o
  | 12, t, W => ∃ b, t 7 = .pointer (some ⟨b, 0, none⟩) ∧ s ≤ b ∧ ∃ o : Array Value, o.size = 5 ∧ Box W b 31 o
  | 13, t, W => ∃ b, t 6 = .pointer (some ⟨b, 0, none⟩) ∧ s ≤ b ∧ Box W b 25 (aggC (tupAt (t 41) 0))
  | 14, t, W => ∃ b, t 7 = .pointer (some ⟨b, 0, none⟩) ∧ s ≤ b ∧ Box W b 31 (aggC (tupAt (t 41) 1))
  | 15, t, _ => t 8 = tupAt (t 41) 2
  | 16, t, _ => t 9 = tupAt (t 41) 3
  | 17, t, _ => t 10 = tupAt (t 41) 4
  | _, _, _ => True
section
variable {s : Nat} {a0vA8 : Option Addr} {a0vc8 : Nat} {a0d0 : Int} {a0d1 : Int} {a0d2 : Int} {a0d3 : Int} {a0d4 : Bool} {a0d5 : Bool} {a0d6 : Bool} {a0d7 : Bool} {a0d8 : List Int} {a1vA0 a1vA1 a1vA2 a1vA3 : Option Addr} {a1vc0 a1vc1 a1vc2 a1vc3 : Nat} {a1d0 : List Int} {a1d1 : List Int} {a1d2 : List Int} {a1d3 : List Bool} {a1d4 : Int} {r0d0 : Int} {r0d1 : Int} {r0d2 : Int} {r0d3 : Int} {r0d4 : Bool} {r0d5 : Bool} {r0d6 : Bool} {r0d7 : Bool} {r0d8 : List Int} {r1d0 : List Int} {r1d1 : List Int} {r1d2 : List Int} {r1d3 : List Bool} {r1d4 : Int} {r2d0 : Int} {r3d0 : Int} {r4d0 : Int} {W W' : World}
theorem rgw_below (k : Below W.heap.size W W') : ∀ (j : Nat) (t : Nat → Value), rgw s a0vA8 a0vc8 a0d0 a0d1 a0d2 a0d3 a0d4 a0d5 a0d6 a0d7 a0d8 a1vA0 a1vA1 a1vA2 a1vA3 a1vc0 a1vc1 a1vc2 a1vc3 a1d0 a1d1 a1d2 a1d3 a1d4 r0d0 r0d1 r0d2 r0d3 r0d4 r0d5 r0d6 r0d7 r0d8 r1d0 r1d1 r1d2 r1d3 r1d4 r2d0 r3d0 r4d0 j t W → rgw s a0vA8 a0vc8 a0d0 a0d1 a0d2 a0d3 a0d4 a0d5 a0d6 a0d7 a0d8 a1vA0 a1vA1 a1vA2 a1vA3 a1vc0 a1vc1 a1vc2 a1vc3 a1d0 a1d1 a1d2 a1d3 a1d4 r0d0 r0d1 r0d2 r0d3 r0d4 r0d5 r0d6 r0d7 r0d8 r1d0 r1d1 r1d2 r1d3 r1d4 r2d0 r3d0 r4d0 j t W'
  | 0, _, h => h
  | 1, _, ⟨u0vA8, u0vc8, e, O, C⟩ => ⟨u0vA8, u0vc8, e, (O.below k).wide (Nat.le_refl _) k.size, C⟩
  | 2, _, h => h
  | 3, _, ⟨u1vA0, u1vA1, u1vA2, u1vA3, u1vc0, u1vc1, u1vc2, u1vc3, e, O, C⟩ => ⟨u1vA0, u1vA1, u1vA2, u1vA3, u1vc0, u1vc1, u1vc2, u1vc3, e, (O.below k).wide (Nat.le_refl _) k.size, C⟩
  | 4, _, ⟨w0vA8, w1vA0, w1vA1, w1vA2, w1vA3, w0vc8, w1vc0, w1vc1, w1vc2, w1vc3, e, O⟩ => ⟨w0vA8, w1vA0, w1vA1, w1vA2, w1vA3, w0vc8, w1vc0, w1vc1, w1vc2, w1vc3, e, (O.below k).wide (Nat.le_refl _) k.size⟩
  | 5, _, h => h
  | 6, _, h => h
  | 7, _, h => h
  | 8, _, h => h
  | 9, _, h => h
  | 10, _, h => h
  | 11, _, ⟨b, e, q, o, ho, X⟩ => ⟨b, e, q, o, ho, X.step k⟩
  | 12, _, ⟨b, e, q, o, ho, X⟩ => ⟨b, e, q, o, ho, X.step k⟩
  | 13, _, ⟨b, e, q, X⟩ => ⟨b, e, q, X.step k⟩
  | 14, _, ⟨b, e, q, X⟩ => ⟨b, e, q, X.step k⟩
  | 15, _, h => h
  | 16, _, h => h
  | 17, _, h => h
  | _ + 18, _, _ => trivial
theorem rgw_store0 {b' : Nat} {old : Array Value} (Y : Box W b' 25 old) (cs : Array Value) (hcs : cs.size = 9) : ∀ (j : Nat) (t : Nat → Value), j ≠ 13 → rgw s a0vA8 a0vc8 a0d0 a0d1 a0d2 a0d3 a0d4 a0d5 a0d6 a0d7 a0d8 a1vA0 a1vA1 a1vA2 a1vA3 a1vc0 a1vc1 a1vc2 a1vc3 a1d0 a1d1 a1d2 a1d3 a1d4 r0d0 r0d1 r0d2 r0d3 r0d4 r0d5 r0d6 r0d7 r0d8 r1d0 r1d1 r1d2 r1d3 r1d4 r2d0 r3d0 r4d0 j t W → rgw s a0vA8 a0vc8 a0d0 a0d1 a0d2 a0d3 a0d4 a0d5 a0d6 a0d7 a0d8 a1vA0 a1vA1 a1vA2 a1vA3 a1vc0 a1vc1 a1vc2 a1vc3 a1d0 a1d1 a1d2 a1d3 a1d4 r0d0 r0d1 r0d2 r0d3 r0d4 r0d5 r0d6 r0d7 r0d8 r1d0 r1d1 r1d2 r1d3 r1d4 r2d0 r3d0 r4d0 j t (W.setRow b' cs)
  | 0, _, _, h => h
  | 1, _, _, ⟨u0vA8, u0vc8, e, O, C⟩ => ⟨u0vA8, u0vc8, e, (O.awayT Y (by decide) (by decide) (by decide) (by simp) (btw_row1 W b' cs)).wide (Nat.le_refl _) (by simp), C⟩
  | 2, _, _, h => h
  | 3, _, _, ⟨u1vA0, u1vA1, u1vA2, u1vA3, u1vc0, u1vc1, u1vc2, u1vc3, e, O, C⟩ => ⟨u1vA0, u1vA1, u1vA2, u1vA3, u1vc0, u1vc1, u1vc2, u1vc3, e, (O.awayT Y (by decide) (by decide) (by decide) (by simp) (btw_row1 W b' cs)).wide (Nat.le_refl _) (by simp), C⟩
  | 4, _, _, ⟨w0vA8, w1vA0, w1vA1, w1vA2, w1vA3, w0vc8, w1vc0, w1vc1, w1vc2, w1vc3, e, O⟩ => ⟨w0vA8, w1vA0, w1vA1, w1vA2, w1vA3, w0vc8, w1vc0, w1vc1, w1vc2, w1vc3, e, (O.awayT Y (by decide) (by decide) (by decide) (by simp) (btw_row1 W b' cs)).wide (Nat.le_refl _) (by simp)⟩
  | 5, _, _, h => h
  | 6, _, _, h => h
  | 7, _, _, h => h
  | 8, _, _, h => h
  | 9, _, _, h => h
  | 10, _, _, h => h
  | 11, _, _, ⟨b, e, q, h⟩ => ⟨b, e, q, Box.some_row h cs (fun _ => hcs)⟩
  | 12, _, _, ⟨b, e, q, o, ho, X⟩ => ⟨b, e, q, o, ho, X.farRow (X.box_ne Y (by decide)) _⟩
  | 13, _, n, _ => (n rfl).elim
  | 14, _, _, ⟨b, e, q, X⟩ => ⟨b, e, q, X.farRow (X.box_ne Y (by decide)) _⟩
  | 15, _, _, h => h
  | 16, _, _, h => h
  | 17, _, _, h => h
  | _ + 18, _, _, _ => trivial
theorem rgw_store1 {b' : Nat} {old : Array Value} (Y : Box W b' 31 old) (cs : Array Value) (hcs : cs.size = 5) : ∀ (j : Nat) (t : Nat → Value), j ≠ 14 → rgw s a0vA8 a0vc8 a0d0 a0d1 a0d2 a0d3 a0d4 a0d5 a0d6 a0d7 a0d8 a1vA0 a1vA1 a1vA2 a1vA3 a1vc0 a1vc1 a1vc2 a1vc3 a1d0 a1d1 a1d2 a1d3 a1d4 r0d0 r0d1 r0d2 r0d3 r0d4 r0d5 r0d6 r0d7 r0d8 r1d0 r1d1 r1d2 r1d3 r1d4 r2d0 r3d0 r4d0 j t W → rgw s a0vA8 a0vc8 a0d0 a0d1 a0d2 a0d3 a0d4 a0d5 a0d6 a0d7 a0d8 a1vA0 a1vA1 a1vA2 a1vA3 a1vc0 a1vc1 a1vc2 a1vc3 a1d0 a1d1 a1d2 a1d3 a1d4 r0d0 r0d1 r0d2 r0d3 r0d4 r0d5 r0d6 r0d7 r0d8 r1d0 r1d1 r1d2 r1d3 r1d4 r2d0 r3d0 r4d0 j t (W.setRow b' cs)
  | 0, _, _, h => h
  | 1, _, _, ⟨u0vA8, u0vc8, e, O, C⟩ => ⟨u0vA8, u0vc8, e, (O.awayT Y (by decide) (by decide) (by decide) (by simp) (btw_row1 W b' cs)).wide (Nat.le_refl _) (by simp), C⟩
  | 2, _, _, h => h
  | 3, _, _, ⟨u1vA0, u1vA1, u1vA2, u1vA3, u1vc0, u1vc1, u1vc2, u1vc3, e, O, C⟩ => ⟨u1vA0, u1vA1, u1vA2, u1vA3, u1vc0, u1vc1, u1vc2, u1vc3, e, (O.awayT Y (by decide) (by decide) (by decide) (by simp) (btw_row1 W b' cs)).wide (Nat.le_refl _) (by simp), C⟩
  | 4, _, _, ⟨w0vA8, w1vA0, w1vA1, w1vA2, w1vA3, w0vc8, w1vc0, w1vc1, w1vc2, w1vc3, e, O⟩ => ⟨w0vA8, w1vA0, w1vA1, w1vA2, w1vA3, w0vc8, w1vc0, w1vc1, w1vc2, w1vc3, e, (O.awayT Y (by decide) (by decide) (by decide) (by simp) (btw_row1 W b' cs)).wide (Nat.le_refl _) (by simp)⟩
  | 5, _, _, h => h
  | 6, _, _, h => h
  | 7, _, _, h => h
  | 8, _, _, h => h
  | 9, _, _, h => h
  | 10, _, _, h => h
  | 11, _, _, ⟨b, e, q, o, ho, X⟩ => ⟨b, e, q, o, ho, X.farRow (X.box_ne Y (by decide)) _⟩
  | 12, _, _, ⟨b, e, q, h⟩ => ⟨b, e, q, Box.some_row h cs (fun _ => hcs)⟩
  | 13, _, _, ⟨b, e, q, X⟩ => ⟨b, e, q, X.farRow (X.box_ne Y (by decide)) _⟩
  | 14, _, n, _ => (n rfl).elim
  | 15, _, _, h => h
  | 16, _, _, h => h
  | 17, _, _, h => h
  | _ + 18, _, _, _ => trivial
end
set_option maxRecDepth 100000 in
theorem lit198 (T : Array Value) (h : T.size = 198) : T = #[T.getD 0 undef, T.getD 1 undef, T.getD 2 undef, T.getD 3 undef, T.getD 4 undef, T.getD 5 undef, T.getD 6 undef, T.getD 7 undef, T.getD 8 undef, T.getD 9 undef, T.getD 10 undef, T.getD 11 undef, T.getD 12 undef, T.getD 13 undef, T.getD 14 undef, T.getD 15 undef, T.getD 16 undef, T.getD 17 undef, T.getD 18 undef, T.getD 19 undef, T.getD 20 undef, T.getD 21 undef, T.getD 22 undef, T.getD 23 undef, T.getD 24 undef, T.getD 25 undef, T.getD 26 undef, T.getD 27 undef, T.getD 28 undef, T.getD 29 undef, T.getD 30 undef, T.getD 31 undef, T.getD 32 undef, T.getD 33 undef, T.getD 34 undef, T.getD 35 undef, T.getD 36 undef, T.getD 37 undef, T.getD 38 undef, T.getD 39 undef, T.getD 40 undef, T.getD 41 undef, T.getD 42 undef, T.getD 43 undef, T.getD 44 undef, T.getD 45 undef, T.getD 46 undef, T.getD 47 undef, T.getD 48 undef, T.getD 49 undef, T.getD 50 undef, T.getD 51 undef, T.getD 52 undef, T.getD 53 undef, T.getD 54 undef, T.getD 55 undef, T.getD 56 undef, T.getD 57 undef, T.getD 58 undef, T.getD 59 undef, T.getD 60 undef, T.getD 61 undef, T.getD 62 undef, T.getD 63 undef, T.getD 64 undef, T.getD 65 undef, T.getD 66 undef, T.getD 67 undef, T.getD 68 undef, T.getD 69 undef, T.getD 70 undef, T.getD 71 undef, T.getD 72 undef, T.getD 73 undef, T.getD 74 undef, T.getD 75 undef, T.getD 76 undef, T.getD 77 undef, T.getD 78 undef, T.getD 79 undef, T.getD 80 undef, T.getD 81 undef, T.getD 82 undef, T.getD 83 undef, T.getD 84 undef, T.getD 85 undef, T.getD 86 undef, T.getD 87 undef, T.getD 88 undef, T.getD 89 undef, T.getD 90 undef, T.getD 91 undef, T.getD 92 undef, T.getD 93 undef, T.getD 94 undef, T.getD 95 undef, T.getD 96 undef, T.getD 97 undef, T.getD 98 undef, T.getD 99 undef, T.getD 100 undef, T.getD 101 undef, T.getD 102 undef, T.getD 103 undef, T.getD 104 undef, T.getD 105 undef, T.getD 106 undef, T.getD 107 undef, T.getD 108 undef, T.getD 109 undef, T.getD 110 undef, T.getD 111 undef, T.getD 112 undef, T.getD 113 undef, T.getD 114 undef, T.getD 115 undef, T.getD 116 undef, T.getD 117 undef, T.getD 118 undef, T.getD 119 undef, T.getD 120 undef, T.getD 121 undef, T.getD 122 undef, T.getD 123 undef, T.getD 124 undef, T.getD 125 undef, T.getD 126 undef, T.getD 127 undef, T.getD 128 undef, T.getD 129 undef, T.getD 130 undef, T.getD 131 undef, T.getD 132 undef, T.getD 133 undef, T.getD 134 undef, T.getD 135 undef, T.getD 136 undef, T.getD 137 undef, T.getD 138 undef, T.getD 139 undef, T.getD 140 undef, T.getD 141 undef, T.getD 142 undef, T.getD 143 undef, T.getD 144 undef, T.getD 145 undef, T.getD 146 undef, T.getD 147 undef, T.getD 148 undef, T.getD 149 undef, T.getD 150 undef, T.getD 151 undef, T.getD 152 undef, T.getD 153 undef, T.getD 154 undef, T.getD 155 undef, T.getD 156 undef, T.getD 157 undef, T.getD 158 undef, T.getD 159 undef, T.getD 160 undef, T.getD 161 undef, T.getD 162 undef, T.getD 163 undef, T.getD 164 undef, T.getD 165 undef, T.getD 166 undef, T.getD 167 undef, T.getD 168 undef, T.getD 169 undef, T.getD 170 undef, T.getD 171 undef, T.getD 172 undef, T.getD 173 undef, T.getD 174 undef, T.getD 175 undef, T.getD 176 undef, T.getD 177 undef, T.getD 178 undef, T.getD 179 undef, T.getD 180 undef, T.getD 181 undef, T.getD 182 undef, T.getD 183 undef, T.getD 184 undef, T.getD 185 undef, T.getD 186 undef, T.getD 187 undef, T.getD 188 undef, T.getD 189 undef, T.getD 190 undef, T.getD 191 undef, T.getD 192 undef, T.getD 193 undef, T.getD 194 undef, T.getD 195 undef, T.getD 196 undef, T.getD 197 undef] := (litArr T 198 h).trans (by kernel_rfl)
def rgh (s : Nat) (a0vA8 : Option Addr) (a0vc8 : Nat) (a0d0 : Int) (a0d1 : Int) (a0d2 : Int) (a0d3 : Int) (a0d4 : Bool) (a0d5 : Bool) (a0d6 : Bool) (a0d7 : Bool) (a0d8 : List Int) (a1vA0 a1vA1 a1vA2 a1vA3 : Option Addr) (a1vc0 a1vc1 a1vc2 a1vc3 : Nat) (a1d0 : List Int) (a1d1 : List Int) (a1d2 : List Int) (a1d3 : List Bool) (a1d4 : Int) (r0d0 : Int) (r0d1 : Int) (r0d2 : Int) (r0d3 : Int) (r0d4 : Bool) (r0d5 : Bool) (r0d6 : Bool) (r0d7 : Bool) (r0d8 : List Int) (r1d0 : List Int) (r1d1 : List Int) (r1d2 : List Int) (r1d3 : List Bool) (r1d4 : Int) (r2d0 : Int) (r3d0 : Int) (r4d0 : Int) : Nat → (Nat → Value) → World → Prop
  | 0, t, _ => t 150 = .agg #[.int .i64 a0d0, .int .i64 a0d1, .int .i64 a0d2, .int .i64 a0d3, .bool a0d4, .bool a0d5, .bool a0d6, .bool a0d7, .slice a0vA8 a0d8.length a0vc8]
  | 1, t, W => ∃ u0vA8 u0vc8, t 151 = .agg #[.int .i64 a0d0, .int .i64 a0d1, .int .i64 a0d2, .int .i64 a0d3, .bool a0d4, .bool a0d5, .bool a0d6, .bool a0d7, .slice u0vA8 a0d8.length u0vc8] ∧ OwnA W s W.heap.size [.slice u0vA8 a0d8.length u0vc8] [Lf.I a0d8] ∧ CapA [.slice u0vA8 a0d8.length u0vc8]
  | 2, t, _ => t 152 = .agg #[.slice a1vA0 a1d0.length a1vc0, .slice a1vA1 a1d1.length a1vc1, .slice a1vA2 a1d2.length a1vc2, .slice a1vA3 a1d3.length a1vc3, .int .i64 a1d4]
  | 3, t, W => ∃ u1vA0 u1vA1 u1vA2 u1vA3 u1vc0 u1vc1 u1vc2 u1vc3, t 153 = .agg #[.slice u1vA0 a1d0.length u1vc0, .slice u1vA1 a1d1.length u1vc1, .slice u1vA2 a1d2.length u1vc2, .slice u1vA3 a1d3.length u1vc3, .int .i64 a1d4] ∧ OwnA W s W.heap.size [.slice u1vA0 a1d0.length u1vc0, .slice u1vA1 a1d1.length u1vc1, .slice u1vA2 a1d2.length u1vc2, .slice u1vA3 a1d3.length u1vc3] [Lf.I a1d0, Lf.I a1d1, Lf.I a1d2, Lf.B a1d3] ∧ CapA [.slice u1vA0 a1d0.length u1vc0, .slice u1vA1 a1d1.length u1vc1, .slice u1vA2 a1d2.length u1vc2, .slice u1vA3 a1d3.length u1vc3]
  | 4, t, W => ∃ h0vA8 h1vA0 h1vA1 h1vA2 h1vA3 h0vc8 h1vc0 h1vc1 h1vc2 h1vc3, t 154 = .tuple #[.agg #[.int .i64 r0d0, .int .i64 r0d1, .int .i64 r0d2, .int .i64 r0d3, .bool r0d4, .bool r0d5, .bool r0d6, .bool r0d7, .slice h0vA8 r0d8.length h0vc8], .agg #[.slice h1vA0 r1d0.length h1vc0, .slice h1vA1 r1d1.length h1vc1, .slice h1vA2 r1d2.length h1vc2, .slice h1vA3 r1d3.length h1vc3, .int .i64 r1d4], .int .i64 r2d0, .int .i64 r3d0, .int .i64 r4d0] ∧ OwnA W s W.heap.size [.slice h0vA8 r0d8.length h0vc8, .slice h1vA0 r1d0.length h1vc0, .slice h1vA1 r1d1.length h1vc1, .slice h1vA2 r1d2.length h1vc2, .slice h1vA3 r1d3.length h1vc3] [Lf.I r0d8, Lf.I r1d0, Lf.I r1d1, Lf.I r1d2, Lf.B r1d3]
  | 5, t, _ => t 149 = t 154
  | 6, t, _ => t 155 = tupAt (t 154) 0
  | 7, t, _ => t 156 = tupAt (t 154) 1
  | 8, t, _ => t 157 = tupAt (t 154) 2
  | 9, t, _ => t 158 = tupAt (t 154) 3
  | 10, t, _ => t 159 = tupAt (t 154) 4
  | 11, t, W => ∃ b, t 21 = .pointer (some ⟨b, 0, none⟩) ∧ s ≤ b ∧ ∃ o : Array Value, o.size = 9 ∧ Box W b 25 o
  | 12, t, W => ∃ b, t 22 = .pointer (some ⟨b, 0, none⟩) ∧ s ≤ b ∧ ∃ o : Array Value, o.size = 5 ∧ Box W b 31 o
  | 13, t, W => ∃ b, t 21 = .pointer (some ⟨b, 0, none⟩) ∧ s ≤ b ∧ Box W b 25 (aggC (tupAt (t 154) 0))
  | 14, t, W => ∃ b, t 22 = .pointer (some ⟨b, 0, none⟩) ∧ s ≤ b ∧ Box W b 31 (aggC (tupAt (t 154) 1))
  | 15, t, _ => t 23 = tupAt (t 154) 2
  | 16, t, _ => t 24 = tupAt (t 154) 3
  | 17, t, _ => t 25 = tupAt (t 154) 4
  | _, _, _ => True
section
variable {s : Nat} {a0vA8 : Option Addr} {a0vc8 : Nat} {a0d0 : Int} {a0d1 : Int} {a0d2 : Int} {a0d3 : Int} {a0d4 : Bool} {a0d5 : Bool} {a0d6 : Bool} {a0d7 : Bool} {a0d8 : List Int} {a1vA0 a1vA1 a1vA2 a1vA3 : Option Addr} {a1vc0 a1vc1 a1vc2 a1vc3 : Nat} {a1d0 : List Int} {a1d1 : List Int} {a1d2 : List Int} {a1d3 : List Bool} {a1d4 : Int} {r0d0 : Int} {r0d1 : Int} {r0d2 : Int} {r0d3 : Int} {r0d4 : Bool} {r0d5 : Bool} {r0d6 : Bool} {r0d7 : Bool} {r0d8 : List Int} {r1d0 : List Int} {r1d1 : List Int} {r1d2 : List Int} {r1d3 : List Bool} {r1d4 : Int} {r2d0 : Int} {r3d0 : Int} {r4d0 : Int} {W W' : World}
theorem rgh_below (k : Below W.heap.size W W') : ∀ (j : Nat) (t : Nat → Value), rgh s a0vA8 a0vc8 a0d0 a0d1 a0d2 a0d3 a0d4 a0d5 a0d6 a0d7 a0d8 a1vA0 a1vA1 a1vA2 a1vA3 a1vc0 a1vc1 a1vc2 a1vc3 a1d0 a1d1 a1d2 a1d3 a1d4 r0d0 r0d1 r0d2 r0d3 r0d4 r0d5 r0d6 r0d7 r0d8 r1d0 r1d1 r1d2 r1d3 r1d4 r2d0 r3d0 r4d0 j t W → rgh s a0vA8 a0vc8 a0d0 a0d1 a0d2 a0d3 a0d4 a0d5 a0d6 a0d7 a0d8 a1vA0 a1vA1 a1vA2 a1vA3 a1vc0 a1vc1 a1vc2 a1vc3 a1d0 a1d1 a1d2 a1d3 a1d4 r0d0 r0d1 r0d2 r0d3 r0d4 r0d5 r0d6 r0d7 r0d8 r1d0 r1d1 r1d2 r1d3 r1d4 r2d0 r3d0 r4d0 j t W'
  | 0, _, h => h
  | 1, _, ⟨u0vA8, u0vc8, e, O, C⟩ => ⟨u0vA8, u0vc8, e, (O.below k).wide (Nat.le_refl _) k.size, C⟩
  | 2, _, h => h
  | 3, _, ⟨u1vA0, u1vA1, u1vA2, u1vA3, u1vc0, u1vc1, u1vc2, u1vc3, e, O, C⟩ => ⟨u1vA0, u1vA1, u1vA2, u1vA3, u1vc0, u1vc1, u1vc2, u1vc3, e, (O.below k).wide (Nat.le_refl _) k.size, C⟩
  | 4, _, ⟨h0vA8, h1vA0, h1vA1, h1vA2, h1vA3, h0vc8, h1vc0, h1vc1, h1vc2, h1vc3, e, O⟩ => ⟨h0vA8, h1vA0, h1vA1, h1vA2, h1vA3, h0vc8, h1vc0, h1vc1, h1vc2, h1vc3, e, (O.below k).wide (Nat.le_refl _) k.size⟩
  | 5, _, h => h
  | 6, _, h => h
  | 7, _, h => h
  | 8, _, h => h
  | 9, _, h => h
  | 10, _, h => h
  | 11, _, ⟨b, e, q, o, ho, X⟩ => ⟨b, e, q, o, ho, X.step k⟩
  | 12, _, ⟨b, e, q, o, ho, X⟩ => ⟨b, e, q, o, ho, X.step k⟩
  | 13, _, ⟨b, e, q, X⟩ => ⟨b, e, q, X.step k⟩
  | 14, _, ⟨b, e, q, X⟩ => ⟨b, e, q, X.step k⟩
  | 15, _, h => h
  | 16, _, h => h
  | 17, _, h => h
  | _ + 18, _, _ => trivial
theorem rgh_store0 {b' : Nat} {old : Array Value} (Y : Box W b' 25 old) (cs : Array Value) (hcs : cs.size = 9) : ∀ (j : Nat) (t : Nat → Value), j ≠ 13 → rgh s a0vA8 a0vc8 a0d0 a0d1 a0d2 a0d3 a0d4 a0d5 a0d6 a0d7 a0d8 a1vA0 a1vA1 a1vA2 a1vA3 a1vc0 a1vc1 a1vc2 a1vc3 a1d0 a1d1 a1d2 a1d3 a1d4 r0d0 r0d1 r0d2 r0d3 r0d4 r0d5 r0d6 r0d7 r0d8 r1d0 r1d1 r1d2 r1d3 r1d4 r2d0 r3d0 r4d0 j t W → rgh s a0vA8 a0vc8 a0d0 a0d1 a0d2 a0d3 a0d4 a0d5 a0d6 a0d7 a0d8 a1vA0 a1vA1 a1vA2 a1vA3 a1vc0 a1vc1 a1vc2 a1vc3 a1d0 a1d1 a1d2 a1d3 a1d4 r0d0 r0d1 r0d2 r0d3 r0d4 r0d5 r0d6 r0d7 r0d8 r1d0 r1d1 r1d2 r1d3 r1d4 r2d0 r3d0 r4d0 j t (W.setRow b' cs)
  | 0, _, _, h => h
  | 1, _, _, ⟨u0vA8, u0vc8, e, O, C⟩ => ⟨u0vA8, u0vc8, e, (O.awayT Y (by decide) (by decide) (by decide) (by simp) (btw_row1 W b' cs)).wide (Nat.le_refl _) (by simp), C⟩
  | 2, _, _, h => h
  | 3, _, _, ⟨u1vA0, u1vA1, u1vA2, u1vA3, u1vc0, u1vc1, u1vc2, u1vc3, e, O, C⟩ => ⟨u1vA0, u1vA1, u1vA2, u1vA3, u1vc0, u1vc1, u1vc2, u1vc3, e, (O.awayT Y (by decide) (by decide) (by decide) (by simp) (btw_row1 W b' cs)).wide (Nat.le_refl _) (by simp), C⟩
  | 4, _, _, ⟨h0vA8, h1vA0, h1vA1, h1vA2, h1vA3, h0vc8, h1vc0, h1vc1, h1vc2, h1vc3, e, O⟩ => ⟨h0vA8, h1vA0, h1vA1, h1vA2, h1vA3, h0vc8, h1vc0, h1vc1, h1vc2, h1vc3, e, (O.awayT Y (by decide) (by decide) (by decide) (by simp) (btw_row1 W b' cs)).wide (Nat.le_refl _) (by simp)⟩
  | 5, _, _, h => h
  | 6, _, _, h => h
  | 7, _, _, h => h
  | 8, _, _, h => h
  | 9, _, _, h => h
  | 10, _, _, h => h
  | 11, _, _, ⟨b, e, q, h⟩ => ⟨b, e, q, Box.some_row h cs (fun _ => hcs)⟩
  | 12, _, _, ⟨b, e, q, o, ho, X⟩ => ⟨b, e, q, o, ho, X.farRow (X.box_ne Y (by decide)) _⟩
  | 13, _, n, _ => (n rfl).elim
  | 14, _, _, ⟨b, e, q, X⟩ => ⟨b, e, q, X.farRow (X.box_ne Y (by decide)) _⟩
  | 15, _, _, h => h
  | 16, _, _, h => h
  | 17, _, _, h => h
  | _ + 18, _, _, _ => trivial
theorem rgh_store1 {b' : Nat} {old : Array Value} (Y : Box W b' 31 old) (cs : Array Value) (hcs : cs.size = 5) : ∀ (j : Nat) (t : Nat → Value), j ≠ 14 → rgh s a0vA8 a0vc8 a0d0 a0d1 a0d2 a0d3 a0d4 a0d5 a0d6 a0d7 a0d8 a1vA0 a1vA1 a1vA2 a1vA3 a1vc0 a1vc1 a1vc2 a1vc3 a1d0 a1d1 a1d2 a1d3 a1d4 r0d0 r0d1 r0d2 r0d3 r0d4 r0d5 r0d6 r0d7 r0d8 r1d0 r1d1 r1d2 r1d3 r1d4 r2d0 r3d0 r4d0 j t W → rgh s a0vA8 a0vc8 a0d0 a0d1 a0d2 a0d3 a0d4 a0d5 a0d6 a0d7 a0d8 a1vA0 a1vA1 a1vA2 a1vA3 a1vc0 a1vc1 a1vc2 a1vc3 a1d0 a1d1 a1d2 a1d3 a1d4 r0d0 r0d1 r0d2 r0d3 r0d4 r0d5 r0d6 r0d7 r0d8 r1d0 r1d1 r1d2 r1d3 r1d4 r2d0 r3d0 r4d0 j t (W.setRow b' cs)
  | 0, _, _, h => h
  | 1, _, _, ⟨u0vA8, u0vc8, e, O, C⟩ => ⟨u0vA8, u0vc8, e, (O.awayT Y (by decide) (by decide) (by decide) (by simp) (btw_row1 W b' cs)).wide (Nat.le_refl _) (by simp), C⟩
  | 2, _, _, h => h
  | 3, _, _, ⟨u1vA0, u1vA1, u1vA2, u1vA3, u1vc0, u1vc1, u1vc2, u1vc3, e, O, C⟩ => ⟨u1vA0, u1vA1, u1vA2, u1vA3, u1vc0, u1vc1, u1vc2, u1vc3, e, (O.awayT Y (by decide) (by decide) (by decide) (by simp) (btw_row1 W b' cs)).wide (Nat.le_refl _) (by simp), C⟩
  | 4, _, _, ⟨h0vA8, h1vA0, h1vA1, h1vA2, h1vA3, h0vc8, h1vc0, h1vc1, h1vc2, h1vc3, e, O⟩ => ⟨h0vA8, h1vA0, h1vA1, h1vA2, h1vA3, h0vc8, h1vc0, h1vc1, h1vc2, h1vc3, e, (O.awayT Y (by decide) (by decide) (by decide) (by simp) (btw_row1 W b' cs)).wide (Nat.le_refl _) (by simp)⟩
  | 5, _, _, h => h
  | 6, _, _, h => h
  | 7, _, _, h => h
  | 8, _, _, h => h
  | 9, _, _, h => h
  | 10, _, _, h => h
  | 11, _, _, ⟨b, e, q, o, ho, X⟩ => ⟨b, e, q, o, ho, X.farRow (X.box_ne Y (by decide)) _⟩
  | 12, _, _, ⟨b, e, q, h⟩ => ⟨b, e, q, Box.some_row h cs (fun _ => hcs)⟩
  | 13, _, _, ⟨b, e, q, X⟩ => ⟨b, e, q, X.farRow (X.box_ne Y (by decide)) _⟩
  | 14, _, n, _ => (n rfl).elim
  | 15, _, _, h => h
  | 16, _, _, h => h
  | 17, _, _, h => h
  | _ + 18, _, _, _ => trivial
end
set_option maxRecDepth 100000 in
set_option maxHeartbeats 16000000 in
theorem walk (a0vA8 : Option Addr) (a0vc8 : Nat) (a0d0 : Int) (a0d1 : Int) (a0d2 : Int) (a0d3 : Int) (a0d4 : Bool) (a0d5 : Bool) (a0d6 : Bool) (a0d7 : Bool) (a0d8 : List Int) (a1vA0 a1vA1 a1vA2 a1vA3 : Option Addr) (a1vc0 a1vc1 a1vc2 a1vc3 : Nat) (a1d0 : List Int) (a1d1 : List Int) (a1d2 : List Int) (a1d3 : List Bool) (a1d4 : Int) (w : World) (h0 : RepA w [.slice a0vA8 a0d8.length a0vc8] [Lf.I a0d8]) (f0 : FitA [Lf.I a0d8]) (h1 : RepA w [.slice a1vA0 a1d0.length a1vc0, .slice a1vA1 a1d1.length a1vc1, .slice a1vA2 a1d2.length a1vc2, .slice a1vA3 a1d3.length a1vc3] [Lf.I a1d0, Lf.I a1d1, Lf.I a1d2, Lf.B a1d3]) (f1 : FitA [Lf.I a1d0, Lf.I a1d1, Lf.I a1d2, Lf.B a1d3]) (ht : OpsT w) :
    Calls Tryz.prog 5 #[.agg #[.int .i64 a0d0, .int .i64 a0d1, .int .i64 a0d2, .int .i64 a0d3, .bool a0d4, .bool a0d5, .bool a0d6, .bool a0d7, .slice a0vA8 a0d8.length a0vc8], .agg #[.slice a1vA0 a1d0.length a1vc0, .slice a1vA1 a1d1.length a1vc1, .slice a1vA2 a1d2.length a1vc2, .slice a1vA3 a1d3.length a1vc3, .int .i64 a1d4]] w fun e w' => e = .returned (.bool true) ∧ Below w.heap.size w w' := by
  have HT := Lib.hid ht
  clear ht
  have HSz0 := Lib.hid (fun W (hb : Below w.heap.size w W) l g0 g1 => szCpuA a0vA8 a0vc8 a0d0 a0d1 a0d2 a0d3 a0d4 a0d5 a0d6 a0d7 a0d8 l W (h0.below hb) f0 g0 g1)
  have HTo0 := Lib.hid (fun W (hb : Below w.heap.size w W) (z : szA [Lf.I a0d8] ≤ 1048576) => toCpuA a0vA8 a0vc8 a0d0 a0d1 a0d2 a0d3 a0d4 a0d5 a0d6 a0d7 a0d8 W (h0.below hb) z)
  have HSz1 := Lib.hid (fun W (hb : Below w.heap.size w W) l g0 g1 => szMemA a1vA0 a1vA1 a1vA2 a1vA3 a1vc0 a1vc1 a1vc2 a1vc3 a1d0 a1d1 a1d2 a1d3 a1d4 l W (h1.below hb) f1 g0 g1)
  have HTo1 := Lib.hid (fun W (hb : Below w.heap.size w W) (z : szA [Lf.I a1d0, Lf.I a1d1, Lf.I a1d2, Lf.B a1d3] ≤ 1048576) => toMemA a1vA0 a1vA1 a1vA2 a1vA3 a1vc0 a1vc1 a1vc2 a1vc3 a1d0 a1d1 a1d2 a1d3 a1d4 W (h1.below hb) z)
  have HSpec := Lib.hid (fun W (q0vA8 : Option Addr) (q0vc8 : Nat) (q1vA0 q1vA1 q1vA2 q1vA3 : Option Addr) (q1vc0 q1vc1 q1vc2 q1vc3 : Nat) (h0 : RepA W [.slice q0vA8 a0d8.length q0vc8] [Lf.I a0d8]) (c0 : CapA [.slice q0vA8 a0d8.length q0vc8]) (z0 : szA [Lf.I a0d8] ≤ 1048576) (h1 : RepA W [.slice q1vA0 a1d0.length q1vc0, .slice q1vA1 a1d1.length q1vc1, .slice q1vA2 a1d2.length q1vc2, .slice q1vA3 a1d3.length q1vc3] [Lf.I a1d0, Lf.I a1d1, Lf.I a1d2, Lf.B a1d3]) (c1 : CapA [.slice q1vA0 a1d0.length q1vc0, .slice q1vA1 a1d1.length q1vc1, .slice q1vA2 a1d2.length q1vc2, .slice q1vA3 a1d3.length q1vc3]) (z1 : szA [Lf.I a1d0, Lf.I a1d1, Lf.I a1d2, Lf.B a1d3] ≤ 1048576) => specStepCpuA q0vA8 q0vc8 a0d0 a0d1 a0d2 a0d3 a0d4 a0d5 a0d6 a0d7 a0d8 q1vA0 q1vA1 q1vA2 q1vA3 q1vc0 q1vc1 q1vc2 q1vc3 a1d0 a1d1 a1d2 a1d3 a1d4 W h0 c0 z0 h1 c1 z1)
  have HImpl := Lib.hid (fun W (q0vA8 : Option Addr) (q0vc8 : Nat) (q1vA0 q1vA1 q1vA2 q1vA3 : Option Addr) (q1vc0 q1vc1 q1vc2 q1vc3 : Nat) (h0 : RepA W [.slice q0vA8 a0d8.length q0vc8] [Lf.I a0d8]) (c0 : CapA [.slice q0vA8 a0d8.length q0vc8]) (z0 : szA [Lf.I a0d8] ≤ 1048576) (h1 : RepA W [.slice q1vA0 a1d0.length q1vc0, .slice q1vA1 a1d1.length q1vc1, .slice q1vA2 a1d2.length q1vc2, .slice q1vA3 a1d3.length q1vc3] [Lf.I a1d0, Lf.I a1d1, Lf.I a1d2, Lf.B a1d3]) (c1 : CapA [.slice q1vA0 a1d0.length q1vc0, .slice q1vA1 a1d1.length q1vc1, .slice q1vA2 a1d2.length q1vc2, .slice q1vA3 a1d3.length q1vc3]) (z1 : szA [Lf.I a1d0, Lf.I a1d1, Lf.I a1d2, Lf.B a1d3] ≤ 1048576) (t : OpsT W) => implStepCpuA q0vA8 q0vc8 a0d0 a0d1 a0d2 a0d3 a0d4 a0d5 a0d6 a0d7 a0d8 q1vA0 q1vA1 q1vA2 q1vA3 q1vc0 q1vc1 q1vc2 q1vc3 a1d0 a1d1 a1d2 a1d3 a1d4 W h0 c0 z0 h1 c1 z1 t)
  have HBnd := Lib.hid (fun (z0 : szA [Lf.I a0d8] ≤ 1048576) (z1 : szA [Lf.I a1d0, Lf.I a1d1, Lf.I a1d2, Lf.B a1d3] ≤ 1048576) => (show lenA [Lf.I ((stpC ⟨a0d0, a0d1, a0d2, a0d3, a0d4, a0d5, a0d6, a0d7, a0d8⟩ ⟨a1d0, a1d1, a1d2, a1d3, a1d4⟩).regs), Lf.I ((stpM ⟨a0d0, a0d1, a0d2, a0d3, a0d4, a0d5, a0d6, a0d7, a0d8⟩ ⟨a1d0, a1d1, a1d2, a1d3, a1d4⟩).r), Lf.I ((stpM ⟨a0d0, a0d1, a0d2, a0d3, a0d4, a0d5, a0d6, a0d7, a0d8⟩ ⟨a1d0, a1d1, a1d2, a1d3, a1d4⟩).i), Lf.I ((stpM ⟨a0d0, a0d1, a0d2, a0d3, a0d4, a0d5, a0d6, a0d7, a0d8⟩ ⟨a1d0, a1d1, a1d2, a1d3, a1d4⟩).z), Lf.B ((stpM ⟨a0d0, a0d1, a0d2, a0d3, a0d4, a0d5, a0d6, a0d7, a0d8⟩ ⟨a1d0, a1d1, a1d2, a1d3, a1d4⟩).g)] ≤ 4294967296 from stp_bnd _ _))
  generalize (stpC ⟨a0d0, a0d1, a0d2, a0d3, a0d4, a0d5, a0d6, a0d7, a0d8⟩ ⟨a1d0, a1d1, a1d2, a1d3, a1d4⟩).pc = r0d0 at HSpec HImpl HBnd
  generalize (stpC ⟨a0d0, a0d1, a0d2, a0d3, a0d4, a0d5, a0d6, a0d7, a0d8⟩ ⟨a1d0, a1d1, a1d2, a1d3, a1d4⟩).sp = r0d1 at HSpec HImpl HBnd
  generalize (stpC ⟨a0d0, a0d1, a0d2, a0d3, a0d4, a0d5, a0d6, a0d7, a0d8⟩ ⟨a1d0, a1d1, a1d2, a1d3, a1d4⟩).bank = r0d2 at HSpec HImpl HBnd
  generalize (stpC ⟨a0d0, a0d1, a0d2, a0d3, a0d4, a0d5, a0d6, a0d7, a0d8⟩ ⟨a1d0, a1d1, a1d2, a1d3, a1d4⟩).level = r0d3 at HSpec HImpl HBnd
  generalize (stpC ⟨a0d0, a0d1, a0d2, a0d3, a0d4, a0d5, a0d6, a0d7, a0d8⟩ ⟨a1d0, a1d1, a1d2, a1d3, a1d4⟩).zero = r0d4 at HSpec HImpl HBnd
  generalize (stpC ⟨a0d0, a0d1, a0d2, a0d3, a0d4, a0d5, a0d6, a0d7, a0d8⟩ ⟨a1d0, a1d1, a1d2, a1d3, a1d4⟩).carry = r0d5 at HSpec HImpl HBnd
  generalize (stpC ⟨a0d0, a0d1, a0d2, a0d3, a0d4, a0d5, a0d6, a0d7, a0d8⟩ ⟨a1d0, a1d1, a1d2, a1d3, a1d4⟩).on = r0d6 at HSpec HImpl HBnd
  generalize (stpC ⟨a0d0, a0d1, a0d2, a0d3, a0d4, a0d5, a0d6, a0d7, a0d8⟩ ⟨a1d0, a1d1, a1d2, a1d3, a1d4⟩).halt = r0d7 at HSpec HImpl HBnd
  generalize (stpC ⟨a0d0, a0d1, a0d2, a0d3, a0d4, a0d5, a0d6, a0d7, a0d8⟩ ⟨a1d0, a1d1, a1d2, a1d3, a1d4⟩).regs = r0d8 at HSpec HImpl HBnd
  generalize (stpM ⟨a0d0, a0d1, a0d2, a0d3, a0d4, a0d5, a0d6, a0d7, a0d8⟩ ⟨a1d0, a1d1, a1d2, a1d3, a1d4⟩).r = r1d0 at HSpec HImpl HBnd
  generalize (stpM ⟨a0d0, a0d1, a0d2, a0d3, a0d4, a0d5, a0d6, a0d7, a0d8⟩ ⟨a1d0, a1d1, a1d2, a1d3, a1d4⟩).i = r1d1 at HSpec HImpl HBnd
  generalize (stpM ⟨a0d0, a0d1, a0d2, a0d3, a0d4, a0d5, a0d6, a0d7, a0d8⟩ ⟨a1d0, a1d1, a1d2, a1d3, a1d4⟩).z = r1d2 at HSpec HImpl HBnd
  generalize (stpM ⟨a0d0, a0d1, a0d2, a0d3, a0d4, a0d5, a0d6, a0d7, a0d8⟩ ⟨a1d0, a1d1, a1d2, a1d3, a1d4⟩).g = r1d3 at HSpec HImpl HBnd
  generalize (stpM ⟨a0d0, a0d1, a0d2, a0d3, a0d4, a0d5, a0d6, a0d7, a0d8⟩ ⟨a1d0, a1d1, a1d2, a1d3, a1d4⟩).s = r1d4 at HSpec HImpl HBnd
  generalize (stpN ⟨a0d0, a0d1, a0d2, a0d3, a0d4, a0d5, a0d6, a0d7, a0d8⟩ ⟨a1d0, a1d1, a1d2, a1d3, a1d4⟩) = r2d0 at HSpec HImpl HBnd
  generalize (stpS ⟨a0d0, a0d1, a0d2, a0d3, a0d4, a0d5, a0d6, a0d7, a0d8⟩ ⟨a1d0, a1d1, a1d2, a1d3, a1d4⟩) = r3d0 at HSpec HImpl HBnd
  generalize (stpE ⟨a0d0, a0d1, a0d2, a0d3, a0d4, a0d5, a0d6, a0d7, a0d8⟩ ⟨a1d0, a1d1, a1d2, a1d3, a1d4⟩) = r4d0 at HSpec HImpl HBnd
  have qr2d0 : (r2d0 != r2d0) = false := by simp
  have qr3d0 : (r3d0 != r3d0) = false := by simp
  have qr4d0 : (r4d0 != r4d0) = false := by simp
  clear h0 f0 h1 f1
  have H0 : Hid (Below w.heap.size w w) := Lib.hid (Below.refl _ _)
  go_enter Tryz.func5, Tryz.ntmps5
  obtain ⟨W1, hW1⟩ : ∃ W1, W1 = ((w.alloc (.cells #[.int .i64 a0d0, .int .i64 a0d1, .int .i64 a0d2, .int .i64 a0d3, .bool a0d4, .bool a0d5, .bool a0d6, .bool a0d7, .slice a0vA8 a0d8.length a0vc8] 44)).alloc (.cells #[.slice a1vA0 a1d0.length a1vc0, .slice a1vA1 a1d1.length a1vc1, .slice a1vA2 a1d2.length a1vc2, .slice a1vA3 a1d3.length a1vc3, .int .i64 a1d4] 47)) := ⟨_, rfl⟩
  have hba : Below w.heap.size w W1 := by rw [hW1]; exact (((Below.refl _ _).alloc (Nat.le_refl _) _).alloc (by simp; try omega) _)
  have Z2 : Hid (W1.heap.size = w.heap.size + 2) := Lib.hid (by rw [hW1]; simp)
  have B3 : Hid (Box W1 (w.heap.size) 44 #[.int .i64 a0d0, .int .i64 a0d1, .int .i64 a0d2, .int .i64 a0d3, .bool a0d4, .bool a0d5, .bool a0d6, .bool a0d7, .slice a0vA8 a0d8.length a0vc8]) := Lib.hid (by rw [hW1]; exact ((Box.new w 44 #[.int .i64 a0d0, .int .i64 a0d1, .int .i64 a0d2, .int .i64 a0d3, .bool a0d4, .bool a0d5, .bool a0d6, .bool a0d7, .slice a0vA8 a0d8.length a0vc8]).alloc (.cells #[.slice a1vA0 a1d0.length a1vc0, .slice a1vA1 a1d1.length a1vc1, .slice a1vA2 a1d2.length a1vc2, .slice a1vA3 a1d3.length a1vc3, .int .i64 a1d4] 47)))
  have B4 : Hid (Box W1 (w.heap.size + 1) 47 #[.slice a1vA0 a1d0.length a1vc0, .slice a1vA1 a1d1.length a1vc1, .slice a1vA2 a1d2.length a1vc2, .slice a1vA3 a1d3.length a1vc3, .int .i64 a1d4]) := Lib.hid (by rw [hW1]; simpa using (Box.new (w.alloc (.cells #[.int .i64 a0d0, .int .i64 a0d1, .int .i64 a0d2, .int .i64 a0d3, .bool a0d4, .bool a0d5, .bool a0d6, .bool a0d7, .slice a0vA8 a0d8.length a0vc8] 44)) 47 #[.slice a1vA0 a1d0.length a1vc0, .slice a1vA1 a1d1.length a1vc1, .slice a1vA2 a1d2.length a1vc2, .slice a1vA3 a1d3.length a1vc3, .int .i64 a1d4]))
  have H5 := Lib.hid (bt H0.out hba)
  have Z6 : Hid (w.heap.size ≤ W1.heap.size) := Lib.hid hba.size
  clear H0 hba
  have HW1 := Lib.hid hW1
  clear hW1
  go_wp2_with fail
  rw [← HW1.out]
  refine (HSz0.out _ H5.out _ (by omega) (by omega)).mono ?_
  rintro e w7 ⟨hres, hc⟩
  clear HW1
  have F8 := Lib.hid (B3.out.step hc)
  have F9 := Lib.hid (B4.out.step hc)
  have H10 := Lib.hid (bt H5.out hc)
  have Z11 : Hid (W1.heap.size ≤ w7.heap.size) := Lib.hid hc.size
  clear B3 B4 H5 hc
  clear HSz0
  rcases hres with rfl | ⟨rfl, hle0⟩
  · go_wp2
    go_ret
    exact ⟨rfl, H10.out⟩
  have z0 : szA [Lf.I a0d8] ≤ 1048576 := by omega
  generalize hu0 : szA [Lf.I a0d8] = u0 at hle0 ⊢
  clear hu0
  have hp0 : ¬ (1048576 : Int) - (u0 : Int) < 0 := by omega
  have f0 : w7.cell? ⟨w.heap.size + 1, 0, none⟩ = some (.slice a1vA0 a1d0.length a1vc0) := F9.out.cell 0 rfl
  have f1 : w7.cell? ⟨w.heap.size + 1, 1, none⟩ = some (.slice a1vA1 a1d1.length a1vc1) := F9.out.cell 1 rfl
  have f2 : w7.cell? ⟨w.heap.size + 1, 2, none⟩ = some (.slice a1vA2 a1d2.length a1vc2) := F9.out.cell 2 rfl
  have f3 : w7.cell? ⟨w.heap.size + 1, 3, none⟩ = some (.slice a1vA3 a1d3.length a1vc3) := F9.out.cell 3 rfl
  have f4 : w7.cell? ⟨w.heap.size + 1, 4, none⟩ = some (.int .i64 a1d4) := F9.out.cell 4 rfl
  go_wp2_with fail
  refine (HSz1.out _ H10.out _ (by omega) (by omega)).mono ?_
  rintro e w12 ⟨hres, hc⟩
  clear f0 f1 f2 f3 f4
  have F13 := Lib.hid (F8.out.step hc)
  have F14 := Lib.hid (F9.out.step hc)
  have H15 := Lib.hid (bt H10.out hc)
  have Z16 : Hid (w7.heap.size ≤ w12.heap.size) := Lib.hid hc.size
  clear F8 F9 H10 hc
  clear HSz1
  rcases hres with rfl | ⟨rfl, hle1⟩
  · go_wp2
    go_ret
    exact ⟨rfl, H15.out⟩
  have z1 : szA [Lf.I a1d0, Lf.I a1d1, Lf.I a1d2, Lf.B a1d3] ≤ 1048576 := by omega
  generalize hu1 : szA [Lf.I a1d0, Lf.I a1d1, Lf.I a1d2, Lf.B a1d3] = u1 at hle1 ⊢
  clear hu1
  have hp1 : ¬ (1048576 : Int) - (u0 : Int) - (u1 : Int) < 0 := by omega
  have HBd := Lib.hid (HBnd.out z0 z1)
  clear HBnd
  have HBr0 : Hid (lenA [Lf.I r0d8] ≤ 4294967296) := Lib.hid (by have := HBd.out; simp only [lenA] at this ⊢; omega)
  have HBr1 : Hid (lenA [Lf.I r1d0, Lf.I r1d1, Lf.I r1d2, Lf.B r1d3] ≤ 4294967296) := Lib.hid (by have := HBd.out; simp only [lenA] at this ⊢; omega)
  go_wp2
  refine wp_region_facts (by kernel_rfl) [[37], [38], [39], [40], [41], [36, 41], [42, 41], [43, 41], [44, 41], [45, 41], [46, 41], [6], [7], [6, 41], [7, 41], [8, 41], [9, 41], [10, 41]] [[], [0], [], [0, 1, 2], [0, 1, 2, 3], [0, 1, 2, 3, 4], [0, 1, 2, 3, 4, 5], [0, 1, 2, 3, 4, 5], [0, 1, 2, 3, 4, 5], [0, 1, 2, 3, 4, 5], [0, 1, 2, 3, 4, 5], [], [], [0, 1, 2, 3, 4, 5, 6, 11, 12], [0, 1, 2, 3, 4, 5, 6, 7, 11, 12, 13], [0, 1, 2, 3, 4, 5, 6, 7, 8, 11, 12, 13, 14], [0, 1, 2, 3, 4, 5, 6, 7, 8, 9, 11, 12, 13, 14, 15], [0, 1, 2, 3, 4, 5, 6, 7, 8, 9, 10, 11, 12, 13, 14, 15, 16]] [0, 1, 2, 3, 4, 5, 11, 12, 13, 14, 15, 16, 17, 18, 19, 20, 21, 22, 23, 24, 25, 26, 27, 28, 29, 30, 31, 32, 33, 34, 35] (by kernel_rfl) (fun W => Below w12.heap.size w12 W) (rgw w12.heap.size a0vA8 a0vc8 a0d0 a0d1 a0d2 a0d3 a0d4 a0d5 a0d6 a0d7 a0d8 a1vA0 a1vA1 a1vA2 a1vA3 a1vc0 a1vc1 a1vc2 a1vc3 a1d0 a1d1 a1d2 a1d3 a1d4 r0d0 r0d1 r0d2 r0d3 r0d4 r0d5 r0d6 r0d7 r0d8 r1d0 r1d1 r1d2 r1d3 r1d4 r2d0 r3d0 r4d0) (Below.refl _ _).drew ?_ ?_
  · refine ⟨?_, ?_, ?_, ?_, ?_, ?_, ?_, ?_, ?_, ?_, ?_, ?_, ?_, ?_, ?_, ?_, ?_, ?_, trivial⟩
    · intro T W hT hs hC hF K hK
      refine wp_load_row 44 (.tmp 2) rfl (w.heap.size) (hs 2 (by decide)) 44 #[.int .i64 a0d0, .int .i64 a0d1, .int .i64 a0d2, .int .i64 a0d3, .bool a0d4, .bool a0d5, .bool a0d6, .bool a0d7, .slice a0vA8 a0d8.length a0vc8] (0, 0) _ (F13.out.below hC F13.out.lt) Tryz.underlying44 rfl (by kernel_rfl) ?_
      exact hK.out _ W hC (fun _ _ _ h => h) (mask_put [37] 37 (by decide) _ _ _ (by rw [hT]; show 37 < 198; decide))
    · intro T W hT hs hC hF K hK
      have e : T.getD 37 undef = .agg #[.int .i64 a0d0, .int .i64 a0d1, .int .i64 a0d2, .int .i64 a0d3, .bool a0d4, .bool a0d5, .bool a0d6, .bool a0d7, .slice a0vA8 a0d8.length a0vc8] := hF 0 (by decide)
      have hb := bt H15.out hC
      refine wp_callfn Tryz.func20 (by kernel_rfl) (by kernel_rfl) [.agg #[.int .i64 a0d0, .int .i64 a0d1, .int .i64 a0d2, .int .i64 a0d3, .bool a0d4, .bool a0d5, .bool a0d6, .bool a0d7, .slice a0vA8 a0d8.length a0vc8]] rfl (by show [T.getD 37 undef] = _; rw [e]) (HTo0.out _ hb z0) ?_
      rintro e2 w' ⟨u0vA8, u0vc8, rfl, N, C, hc⟩
      exact ⟨_, rfl, hK.out _ w' (hC.trans (hc.mono hC.size)) (fun j t _ h => rgw_below hc j t h) ⟨u0vA8, u0vc8, (mask_put [38] 38 (by decide) _ _ _ (by rw [hT]; show 38 < 198; decide)), N.out.wide hC.size (Nat.le_refl _), C.out⟩⟩
    · intro T W hT hs hC hF K hK
      refine wp_load_row 47 (.tmp 3) rfl (w.heap.size + 1) (hs 3 (by decide)) 47 #[.slice a1vA0 a1d0.length a1vc0, .slice a1vA1 a1d1.length a1vc1, .slice a1vA2 a1d2.length a1vc2, .slice a1vA3 a1d3.length a1vc3, .int .i64 a1d4] (0, 0) _ (F14.out.below hC F14.out.lt) Tryz.underlying47 rfl (by kernel_rfl) ?_
      exact hK.out _ W hC (fun _ _ _ h => h) (mask_put [39] 39 (by decide) _ _ _ (by rw [hT]; show 39 < 198; decide))
    · intro T W hT hs hC hF K hK
      have e : T.getD 39 undef = .agg #[.slice a1vA0 a1d0.length a1vc0, .slice a1vA1 a1d1.length a1vc1, .slice a1vA2 a1d2.length a1vc2, .slice a1vA3 a1d3.length a1vc3, .int .i64 a1d4] := hF 2 (by decide)
      have hb := bt H15.out hC
      refine wp_callfn Tryz.func21 (by kernel_rfl) (by kernel_rfl) [.agg #[.slice a1vA0 a1d0.length a1vc0, .slice a1vA1 a1d1.length a1vc1, .slice a1vA2 a1d2.length a1vc2, .slice a1vA3 a1d3.length a1vc3, .int .i64 a1d4]] rfl (by show [T.getD 39 undef] = _; rw [e]) (HTo1.out _ hb z1) ?_
      rintro e2 w' ⟨u1vA0, u1vA1, u1vA2, u1vA3, u1vc0, u1vc1, u1vc2, u1vc3, rfl, N, C, hc⟩
      exact ⟨_, rfl, hK.out _ w' (hC.trans (hc.mono hC.size)) (fun j t _ h => rgw_below hc j t h) ⟨u1vA0, u1vA1, u1vA2, u1vA3, u1vc0, u1vc1, u1vc2, u1vc3, (mask_put [40] 40 (by decide) _ _ _ (by rw [hT]; show 40 < 198; decide)), N.out.wide hC.size (Nat.le_refl _), C.out⟩⟩
    · intro T W hT hs hC hF K hK
      obtain ⟨u0vA8, u0vc8, e0, O0, C0⟩ := hF 1 (by decide)
      have e0 : T.getD 38 undef = .agg #[.int .i64 a0d0, .int .i64 a0d1, .int .i64 a0d2, .int .i64 a0d3, .bool a0d4, .bool a0d5, .bool a0d6, .bool a0d7, .slice u0vA8 a0d8.length u0vc8] := e0
      obtain ⟨u1vA0, u1vA1, u1vA2, u1vA3, u1vc0, u1vc1, u1vc2, u1vc3, e1, O1, C1⟩ := hF 3 (by decide)
      have e1 : T.getD 40 undef = .agg #[.slice u1vA0 a1d0.length u1vc0, .slice u1vA1 a1d1.length u1vc1, .slice u1vA2 a1d2.length u1vc2, .slice u1vA3 a1d3.length u1vc3, .int .i64 a1d4] := e1
      refine wp_callfn Tryz.func9 (by kernel_rfl) (by kernel_rfl) [.agg #[.int .i64 a0d0, .int .i64 a0d1, .int .i64 a0d2, .int .i64 a0d3, .bool a0d4, .bool a0d5, .bool a0d6, .bool a0d7, .slice u0vA8 a0d8.length u0vc8], .agg #[.slice u1vA0 a1d0.length u1vc0, .slice u1vA1 a1d1.length u1vc1, .slice u1vA2 a1d2.length u1vc2, .slice u1vA3 a1d3.length u1vc3, .int .i64 a1d4]] rfl (by show [T.getD 38 undef, T.getD 40 undef] = _; rw [e0, e1]) (HSpec.out _ u0vA8 u0vc8 u1vA0 u1vA1 u1vA2 u1vA3 u1vc0 u1vc1 u1vc2 u1vc3 O0.reads C0 z0 O1.reads C1 z1) ?_
      rintro e' w' ⟨w0vA8, w1vA0, w1vA1, w1vA2, w1vA3, w0vc8, w1vc0, w1vc1, w1vc2, w1vc3, rfl, N, hc⟩
      exact ⟨_, rfl, hK.out _ w' (hC.trans (hc.mono hC.size)) (fun j t _ h => rgw_below hc j t h) ⟨w0vA8, w1vA0, w1vA1, w1vA2, w1vA3, w0vc8, w1vc0, w1vc1, w1vc2, w1vc3, (mask_put [41] 41 (by decide) _ _ _ (by rw [hT]; show 41 < 198; decide)), N.out.wide hC.size (Nat.le_refl _)⟩⟩
    · intro T W hT hs hC hF K hK
      obtain ⟨w0vA8, w1vA0, w1vA1, w1vA2, w1vA3, w0vc8, w1vc0, w1vc1, w1vc2, w1vc3, e, O⟩ := hF 4 (by decide)
      have e : T.getD 41 undef = .tuple #[.agg #[.int .i64 r0d0, .int .i64 r0d1, .int .i64 r0d2, .int .i64 r0d3, .bool r0d4, .bool r0d5, .bool r0d6, .bool r0d7, .slice w0vA8 r0d8.length w0vc8], .agg #[.slice w1vA0 r1d0.length w1vc0, .slice w1vA1 r1d1.length w1vc1, .slice w1vA2 r1d2.length w1vc2, .slice w1vA3 r1d3.length w1vc3, .int .i64 r1d4], .int .i64 r2d0, .int .i64 r3d0, .int .i64 r4d0] := e
      refine wp_pure (.tmp 41) (.inr rfl) _ e (hK.out _ W hC (fun _ _ _ h => h) ?_)
      exact (mask_put [36, 41] 36 (by decide) _ _ _ (by rw [hT]; show 36 < 198; decide)).trans ((mask_put_ne [36, 41] 36 41 (by decide) _ _ _ (by decide)).trans e).symm
    · intro T W hT hs hC hF K hK
      obtain ⟨w0vA8, w1vA0, w1vA1, w1vA2, w1vA3, w0vc8, w1vc0, w1vc1, w1vc2, w1vc3, e, O⟩ := hF 4 (by decide)
      have e : T.getD 41 undef = .tuple #[.agg #[.int .i64 r0d0, .int .i64 r0d1, .int .i64 r0d2, .int .i64 r0d3, .bool r0d4, .bool r0d5, .bool r0d6, .bool r0d7, .slice w0vA8 r0d8.length w0vc8], .agg #[.slice w1vA0 r1d0.length w1vc0, .slice w1vA1 r1d1.length w1vc1, .slice w1vA2 r1d2.length w1vc2, .slice w1vA3 r1d3.length w1vc3, .int .i64 r1d4], .int .i64 r2d0, .int .i64 r3d0, .int .i64 r4d0] := e
      have em : T.getD 36 undef = T.getD 41 undef := hF 5 (by decide)
      refine wp_extract (.tmp 36) 0 rfl _ (em.trans e) _ rfl (hK.out _ W hC (fun _ _ _ h => h) ?_)
      exact (mask_put [42, 41] 42 (by decide) _ _ _ (by rw [hT]; show 42 < 198; decide)).trans (congrArg (fun x => tupAt x 0) ((mask_put_ne [42, 41] 42 41 (by decide) _ _ _ (by decide)).trans e)).symm
    · intro T W hT hs hC hF K hK
      obtain ⟨w0vA8, w1vA0, w1vA1, w1vA2, w1vA3, w0vc8, w1vc0, w1vc1, w1vc2, w1vc3, e, O⟩ := hF 4 (by decide)
      have e : T.getD 41 undef = .tuple #[.agg #[.int .i64 r0d0, .int .i64 r0d1, .int .i64 r0d2, .int .i64 r0d3, .bool r0d4, .bool r0d5, .bool r0d6, .bool r0d7, .slice w0vA8 r0d8.length w0vc8], .agg #[.slice w1vA0 r1d0.length w1vc0, .slice w1vA1 r1d1.length w1vc1, .slice w1vA2 r1d2.length w1vc2, .slice w1vA3 r1d3.length w1vc3, .int .i64 r1d4], .int .i64 r2d0, .int .i64 r3d0, .int .i64 r4d0] := e
      have em : T.getD 36 undef = T.getD 41 undef := hF 5 (by decide)
      refine wp_extract (.tmp 36) 1 rfl _ (em.trans e) _ rfl (hK.out _ W hC (fun _ _ _ h => h) ?_)
      exact (mask_put [43, 41] 43 (by decide) _ _ _ (by rw [hT]; show 43 < 198; decide)).trans (congrArg (fun x => tupAt x 1) ((mask_put_ne [43, 41] 43 41 (by decide) _ _ _ (by decide)).trans e)).symm
    · intro T W hT hs hC hF K hK
      obtain ⟨w0vA8, w1vA0, w1vA1, w1vA2, w1vA3, w0vc8, w1vc0, w1vc1, w1vc2, w1vc3, e, O⟩ := hF 4 (by decide)
      have e : T.getD 41 undef = .tuple #[.agg #[.int .i64 r0d0, .int .i64 r0d1, .int .i64 r0d2, .int .i64 r0d3, .bool r0d4, .bool r0d5, .bool r0d6, .bool r0d7, .slice w0vA8 r0d8.length w0vc8], .agg #[.slice w1vA0 r1d0.length w1vc0, .slice w1vA1 r1d1.length w1vc1, .slice w1vA2 r1d2.length w1vc2, .slice w1vA3 r1d3.length w1vc3, .int .i64 r1d4], .int .i64 r2d0, .int .i64 r3d0, .int .i64 r4d0] := e
      have em : T.getD 36 undef = T.getD 41 undef := hF 5 (by decide)
      refine wp_extract (.tmp 36) 2 rfl _ (em.trans e) _ rfl (hK.out _ W hC (fun _ _ _ h => h) ?_)
      exact (mask_put [44, 41] 44 (by decide) _ _ _ (by rw [hT]; show 44 < 198; decide)).trans (congrArg (fun x => tupAt x 2) ((mask_put_ne [44, 41] 44 41 (by decide) _ _ _ (by decide)).trans e)).symm
    · intro T W hT hs hC hF K hK
      obtain ⟨w0vA8, w1vA0, w1vA1, w1vA2, w1vA3, w0vc8, w1vc0, w1vc1, w1vc2, w1vc3, e, O⟩ := hF 4 (by decide)
      have e : T.getD 41 undef = .tuple #[.agg #[.int .i64 r0d0, .int .i64 r0d1, .int .i64 r0d2, .int .i64 r0d3, .bool r0d4, .bool r0d5, .bool r0d6, .bool r0d7, .slice w0vA8 r0d8.length w0vc8], .agg #[.slice w1vA0 r1d0.length w1vc0, .slice w1vA1 r1d1.length w1vc1, .slice w1vA2 r1d2.length w1vc2, .slice w1vA3 r1d3.length w1vc3, .int .i64 r1d4], .int .i64 r2d0, .int .i64 r3d0, .int .i64 r4d0] := e
      have em : T.getD 36 undef = T.getD 41 undef := hF 5 (by decide)
      refine wp_extract (.tmp 36) 3 rfl _ (em.trans e) _ rfl (hK.out _ W hC (fun _ _ _ h => h) ?_)
      exact (mask_put [45, 41] 45 (by decide) _ _ _ (by rw [hT]; show 45 < 198; decide)).trans (congrArg (fun x => tupAt x 3) ((mask_put_ne [45, 41] 45 41 (by decide) _ _ _ (by decide)).trans e)).symm
    · intro T W hT hs hC hF K hK
      obtain ⟨w0vA8, w1vA0, w1vA1, w1vA2, w1vA3, w0vc8, w1vc0, w1vc1, w1vc2, w1vc3, e, O⟩ := hF 4 (by decide)
      have e : T.getD 41 undef = .tuple #[.agg #[.int .i64 r0d0, .int .i64 r0d1, .int .i64 r0d2, .int .i64 r0d3, .bool r0d4, .bool r0d5, .bool r0d6, .bool r0d7, .slice w0vA8 r0d8.length w0vc8], .agg #[.slice w1vA0 r1d0.length w1vc0, .slice w1vA1 r1d1.length w1vc1, .slice w1vA2 r1d2.length w1vc2, .slice w1vA3 r1d3.length w1vc3, .int .i64 r1d4], .int .i64 r2d0, .int .i64 r3d0, .int .i64 r4d0] := e
      have em : T.getD 36 undef = T.getD 41 undef := hF 5 (by decide)
      refine wp_extract (.tmp 36) 4 rfl _ (em.trans e) _ rfl (hK.out _ W hC (fun _ _ _ h => h) ?_)
      exact (mask_put [46, 41] 46 (by decide) _ _ _ (by rw [hT]; show 46 < 198; decide)).trans (congrArg (fun x => tupAt x 4) ((mask_put_ne [46, 41] 46 41 (by decide) _ _ _ (by decide)).trans e)).symm
    · intro T W hT hs hC hF K hK
      clear hF hs
      have k0 := alloc_below W (.cells #[.int .i64 0, .int .i64 0, .int .i64 0, .int .i64 0, .bool false, .bool false, .bool false, .bool false, .slice none 0 0] 25)
      refine wp_allocZ 25 rfl #[.int .i64 0, .int .i64 0, .int .i64 0, .int .i64 0, .bool false, .bool false, .bool false, .bool false, .slice none 0 0] (by kernel_rfl) ?_
      exact hK.out _ _ (hC.trans (k0.mono hC.size)) (fun j t _ h => rgw_below k0 j t h) ⟨W.heap.size, (mask_put [6] 6 (by decide) _ _ _ (by rw [hT]; show 6 < 198; decide)), hC.size, _, rfl, Box.new W 25 _⟩
    · intro T W hT hs hC hF K hK
      clear hF hs
      have k0 := alloc_below W (.cells #[.slice none 0 0, .slice none 0 0, .slice none 0 0, .slice none 0 0, .int .i64 0] 31)
      refine wp_allocZ 31 rfl #[.slice none 0 0, .slice none 0 0, .slice none 0 0, .slice none 0 0, .int .i64 0] (by kernel_rfl) ?_
      exact hK.out _ _ (hC.trans (k0.mono hC.size)) (fun j t _ h => rgw_below k0 j t h) ⟨W.heap.size, (mask_put [7] 7 (by decide) _ _ _ (by rw [hT]; show 7 < 198; decide)), hC.size, _, rfl, Box.new W 31 _⟩
    · intro T W hT hs hC hF K hK
      obtain ⟨w0vA8, w1vA0, w1vA1, w1vA2, w1vA3, w0vc8, w1vc0, w1vc1, w1vc2, w1vc3, e, O⟩ := hF 4 (by decide)
      have e : T.getD 41 undef = .tuple #[.agg #[.int .i64 r0d0, .int .i64 r0d1, .int .i64 r0d2, .int .i64 r0d3, .bool r0d4, .bool r0d5, .bool r0d6, .bool r0d7, .slice w0vA8 r0d8.length w0vc8], .agg #[.slice w1vA0 r1d0.length w1vc0, .slice w1vA1 r1d1.length w1vc1, .slice w1vA2 r1d2.length w1vc2, .slice w1vA3 r1d3.length w1vc3, .int .i64 r1d4], .int .i64 r2d0, .int .i64 r3d0, .int .i64 r4d0] := e
      obtain ⟨b, eb, hb, o, ho, X⟩ := hF 11 (by decide)
      have eb : T.getD 6 undef = .pointer (some ⟨b, 0, none⟩) := eb
      have ex : T.getD 42 undef = tupAt (T.getD 41 undef) 0 := hF 6 (by decide)
      rw [e] at ex
      have ex : T.getD 42 undef = .agg #[.int .i64 r0d0, .int .i64 r0d1, .int .i64 r0d2, .int .i64 r0d3, .bool r0d4, .bool r0d5, .bool r0d6, .bool r0d7, .slice w0vA8 r0d8.length w0vc8] := ex
      refine wp_store_row 25 (.tmp 6) (.tmp 42) rfl b #[.int .i64 r0d0, .int .i64 r0d1, .int .i64 r0d2, .int .i64 r0d3, .bool r0d4, .bool r0d5, .bool r0d6, .bool r0d7, .slice w0vA8 r0d8.length w0vc8] eb ex 25 o X (by kernel_rfl) (by rw [ho]; rfl) (by simp [Value.oneCell']) ?_
      refine hK.out _ _ (below_setRow hC hb _) (fun j t n h => rgw_store0 X _ rfl j t n h) ⟨b, eb, hb, ?_⟩
      show Box _ b 25 (aggC (tupAt (T.getD 41 undef) 0))
      rw [e]
      exact X.setRow _
    · intro T W hT hs hC hF K hK
      obtain ⟨w0vA8, w1vA0, w1vA1, w1vA2, w1vA3, w0vc8, w1vc0, w1vc1, w1vc2, w1vc3, e, O⟩ := hF 4 (by decide)
      have e : T.getD 41 undef = .tuple #[.agg #[.int .i64 r0d0, .int .i64 r0d1, .int .i64 r0d2, .int .i64 r0d3, .bool r0d4, .bool r0d5, .bool r0d6, .bool r0d7, .slice w0vA8 r0d8.length w0vc8], .agg #[.slice w1vA0 r1d0.length w1vc0, .slice w1vA1 r1d1.length w1vc1, .slice w1vA2 r1d2.length w1vc2, .slice w1vA3 r1d3.length w1vc3, .int .i64 r1d4], .int .i64 r2d0, .int .i64 r3d0, .int .i64 r4d0] := e
      obtain ⟨b, eb, hb, o, ho, X⟩ := hF 12 (by decide)
      have eb : T.getD 7 undef = .pointer (some ⟨b, 0, none⟩) := eb
      have ex : T.getD 43 undef = tupAt (T.getD 41 undef) 1 := hF 7 (by decide)
      rw [e] at ex
      have ex : T.getD 43 undef = .agg #[.slice w1vA0 r1d0.length w1vc0, .slice w1vA1 r1d1.length w1vc1, .slice w1vA2 r1d2.length w1vc2, .slice w1vA3 r1d3.length w1vc3, .int .i64 r1d4] := ex
      refine wp_store_row 31 (.tmp 7) (.tmp 43) rfl b #[.slice w1vA0 r1d0.length w1vc0, .slice w1vA1 r1d1.length w1vc1, .slice w1vA2 r1d2.length w1vc2, .slice w1vA3 r1d3.length w1vc3, .int .i64 r1d4] eb ex 31 o X (by kernel_rfl) (by rw [ho]; rfl) (by simp [Value.oneCell']) ?_
      refine hK.out _ _ (below_setRow hC hb _) (fun j t n h => rgw_store1 X _ rfl j t n h) ⟨b, eb, hb, ?_⟩
      show Box _ b 31 (aggC (tupAt (T.getD 41 undef) 1))
      rw [e]
      exact X.setRow _
    · intro T W hT hs hC hF K hK
      have ec : T.getD 44 undef = tupAt (T.getD 41 undef) 2 := hF 8 (by decide)
      refine wp_pure (.tmp 44) (.inl rfl) _ ec (hK.out _ W hC (fun _ _ _ h => h) ?_)
      exact (mask_put [8, 41] 8 (by decide) _ _ _ (by rw [hT]; show 8 < 198; decide)).trans (congrArg (fun x => tupAt x 2) (mask_put_ne [8, 41] 8 41 (by decide) _ _ _ (by decide))).symm
    · intro T W hT hs hC hF K hK
      have ec : T.getD 45 undef = tupAt (T.getD 41 undef) 3 := hF 9 (by decide)
      refine wp_pure (.tmp 45) (.inl rfl) _ ec (hK.out _ W hC (fun _ _ _ h => h) ?_)
      exact (mask_put [9, 41] 9 (by decide) _ _ _ (by rw [hT]; show 9 < 198; decide)).trans (congrArg (fun x => tupAt x 3) (mask_put_ne [9, 41] 9 41 (by decide) _ _ _ (by decide))).symm
    · intro T W hT hs hC hF K hK
      have ec : T.getD 46 undef = tupAt (T.getD 41 undef) 4 := hF 10 (by decide)
      refine wp_pure (.tmp 46) (.inl rfl) _ ec (hK.out _ W hC (fun _ _ _ h => h) ?_)
      exact (mask_put [10, 41] 10 (by decide) _ _ _ (by rw [hT]; show 10 < 198; decide)).trans (congrArg (fun x => tupAt x 4) (mask_put_ne [10, 41] 10 41 (by decide) _ _ _ (by decide))).symm
  · intro T w17 hT hs hC hF
    obtain ⟨w0vA8, w1vA0, w1vA1, w1vA2, w1vA3, w0vc8, w1vc0, w1vc1, w1vc2, w1vc3, e, NO⟩ := hF 4 (by decide)
    have v41 : T.getD 41 undef = .tuple #[.agg #[.int .i64 r0d0, .int .i64 r0d1, .int .i64 r0d2, .int .i64 r0d3, .bool r0d4, .bool r0d5, .bool r0d6, .bool r0d7, .slice w0vA8 r0d8.length w0vc8], .agg #[.slice w1vA0 r1d0.length w1vc0, .slice w1vA1 r1d1.length w1vc1, .slice w1vA2 r1d2.length w1vc2, .slice w1vA3 r1d3.length w1vc3, .int .i64 r1d4], .int .i64 r2d0, .int .i64 r3d0, .int .i64 r4d0] := e
    obtain ⟨bw0, e0, hbw0, Xw0⟩ := hF 13 (by decide)
    have v6 : T.getD 6 undef = .pointer (some ⟨bw0, 0, none⟩) := e0
    have Xw0 : Box w17 bw0 25 (aggC (tupAt (T.getD 41 undef) 0)) := Xw0
    rw [v41] at Xw0
    have Xw0 : Hid (Box w17 bw0 25 #[.int .i64 r0d0, .int .i64 r0d1, .int .i64 r0d2, .int .i64 r0d3, .bool r0d4, .bool r0d5, .bool r0d6, .bool r0d7, .slice w0vA8 r0d8.length w0vc8]) := Lib.hid Xw0
    have Zbw0 : Hid (w12.heap.size ≤ bw0 ∧ bw0 < w17.heap.size) := Lib.hid ⟨hbw0, Xw0.out.lt⟩
    obtain ⟨bw1, e1, hbw1, Xw1⟩ := hF 14 (by decide)
    have v7 : T.getD 7 undef = .pointer (some ⟨bw1, 0, none⟩) := e1
    have Xw1 : Box w17 bw1 31 (aggC (tupAt (T.getD 41 undef) 1)) := Xw1
    rw [v41] at Xw1
    have Xw1 : Hid (Box w17 bw1 31 #[.slice w1vA0 r1d0.length w1vc0, .slice w1vA1 r1d1.length w1vc1, .slice w1vA2 r1d2.length w1vc2, .slice w1vA3 r1d3.length w1vc3, .int .i64 r1d4]) := Lib.hid Xw1
    have Zbw1 : Hid (w12.heap.size ≤ bw1 ∧ bw1 < w17.heap.size) := Lib.hid ⟨hbw1, Xw1.out.lt⟩
    have v8 : T.getD 8 undef = tupAt (T.getD 41 undef) 2 := hF 15 (by decide)
    rw [v41] at v8
    have v8 : T.getD 8 undef = .int .i64 r2d0 := v8
    have v9 : T.getD 9 undef = tupAt (T.getD 41 undef) 3 := hF 16 (by decide)
    rw [v41] at v9
    have v9 : T.getD 9 undef = .int .i64 r3d0 := v9
    have v10 : T.getD 10 undef = tupAt (T.getD 41 undef) 4 := hF 17 (by decide)
    rw [v41] at v10
    have v10 : T.getD 10 undef = .int .i64 r4d0 := v10
    have v0 := hs 0 (by decide)
    conv at v0 => rhs; whnf
    have v1 := hs 1 (by decide)
    conv at v1 => rhs; whnf
    have v2 := hs 2 (by decide)
    conv at v2 => rhs; whnf
    have v3 := hs 3 (by decide)
    conv at v3 => rhs; whnf
    have v4 := hs 4 (by decide)
    conv at v4 => rhs; whnf
    have v5 := hs 5 (by decide)
    conv at v5 => rhs; whnf
    have v11 := hs 11 (by decide)
    conv at v11 => rhs; whnf
    have v12 := hs 12 (by decide)
    conv at v12 => rhs; whnf
    have v13 := hs 13 (by decide)
    conv at v13 => rhs; whnf
    have v14 := hs 14 (by decide)
    conv at v14 => rhs; whnf
    have v15 := hs 15 (by decide)
    conv at v15 => rhs; whnf
    have v16 := hs 16 (by decide)
    conv at v16 => rhs; whnf
    have v17 := hs 17 (by decide)
    conv at v17 => rhs; whnf
    have v18 := hs 18 (by decide)
    conv at v18 => rhs; whnf
    have v19 := hs 19 (by decide)
    conv at v19 => rhs; whnf
    have v20 := hs 20 (by decide)
    conv at v20 => rhs; whnf
    have v21 := hs 21 (by decide)
    conv at v21 => rhs; whnf
    have v22 := hs 22 (by decide)
    conv at v22 => rhs; whnf
    have v23 := hs 23 (by decide)
    conv at v23 => rhs; whnf
    have v24 := hs 24 (by decide)
    conv at v24 => rhs; whnf
    have v25 := hs 25 (by decide)
    conv at v25 => rhs; whnf
    have v26 := hs 26 (by decide)
    conv at v26 => rhs; whnf
    have v27 := hs 27 (by decide)
    conv at v27 => rhs; whnf
    have v28 := hs 28 (by decide)
    conv at v28 => rhs; whnf
    have v29 := hs 29 (by decide)
    conv at v29 => rhs; whnf
    have v30 := hs 30 (by decide)
    conv at v30 => rhs; whnf
    have v31 := hs 31 (by decide)
    conv at v31 => rhs; whnf
    have v32 := hs 32 (by decide)
    conv at v32 => rhs; whnf
    have v33 := hs 33 (by decide)
    conv at v33 => rhs; whnf
    have v34 := hs 34 (by decide)
    conv at v34 => rhs; whnf
    have v35 := hs 35 (by decide)
    conv at v35 => rhs; whnf
    rw [lit198 T hT]
    simp only [v41, v6, v7, v8, v9, v10, v0, v1, v2, v3, v4, v5, v11, v12, v13, v14, v15, v16, v17, v18, v19, v20, v21, v22, v23, v24, v25, v26, v27, v28, v29, v30, v31, v32, v33, v34, v35]
    have Nw := Lib.hid NO
    have hc : Below w12.heap.size w12 w17 := hC
    clear NO hF hs hT hC e hbw0 e0 hbw1 e1 v41 v6 v7 v8 v9 v10 v0 v1 v2 v3 v4 v5 v11 v12 v13 v14 v15 v16 v17 v18 v19 v20 v21 v22 v23 v24 v25 v26 v27 v28 v29 v30 v31 v32 v33 v34 v35
    have F18 := Lib.hid (F13.out.step hc)
    have F19 := Lib.hid (F14.out.step hc)
    have H20 := Lib.hid (bt H15.out hc)
    have Z21 : Hid (w12.heap.size ≤ w17.heap.size) := Lib.hid hc.size
    clear F13 F14 H15 hc
    clear HSpec
    have f0 : w17.cell? ⟨w.heap.size, 0, none⟩ = some (.int .i64 a0d0) := F18.out.cell 0 rfl
    have f1 : w17.cell? ⟨w.heap.size, 1, none⟩ = some (.int .i64 a0d1) := F18.out.cell 1 rfl
    have f2 : w17.cell? ⟨w.heap.size, 2, none⟩ = some (.int .i64 a0d2) := F18.out.cell 2 rfl
    have f3 : w17.cell? ⟨w.heap.size, 3, none⟩ = some (.int .i64 a0d3) := F18.out.cell 3 rfl
    have f4 : w17.cell? ⟨w.heap.size, 4, none⟩ = some (.bool a0d4) := F18.out.cell 4 rfl
    have f5 : w17.cell? ⟨w.heap.size, 5, none⟩ = some (.bool a0d5) := F18.out.cell 5 rfl
    have f6 : w17.cell? ⟨w.heap.size, 6, none⟩ = some (.bool a0d6) := F18.out.cell 6 rfl
    have f7 : w17.cell? ⟨w.heap.size, 7, none⟩ = some (.bool a0d7) := F18.out.cell 7 rfl
    have f8 : w17.cell? ⟨w.heap.size, 8, none⟩ = some (.slice a0vA8 a0d8.length a0vc8) := F18.out.cell 8 rfl
    go_wp2_with fail
    refine (HTo0.out _ H20.out z0).mono ?_
    rintro e w22 ⟨x0vA8, x0vc8, rfl, Nx0, Kx0, hc⟩
    clear f0 f1 f2 f3 f4 f5 f6 f7 f8
    have F23 := Lib.hid (F18.out.step hc)
    have F24 := Lib.hid (F19.out.step hc)
    have F25 := Lib.hid (Xw0.out.step hc)
    have F26 := Lib.hid (Xw1.out.step hc)
    have F27 := Lib.hid (Nw.out.below hc)
    have H28 := Lib.hid (bt H20.out hc)
    have Z29 : Hid (w17.heap.size ≤ w22.heap.size) := Lib.hid hc.size
    clear F18 F19 Xw0 Xw1 Nw H20 hc
    obtain ⟨W30, hW30⟩ : ∃ W30, W30 = (w22.alloc (.cells #[.int .i64 a0d0, .int .i64 a0d1, .int .i64 a0d2, .int .i64 a0d3, .bool a0d4, .bool a0d5, .bool a0d6, .bool a0d7, .slice x0vA8 a0d8.length x0vc8] 25)) := ⟨_, rfl⟩
    have hba : Below w22.heap.size w22 W30 := by rw [hW30]; exact ((Below.refl _ _).alloc (Nat.le_refl _) _)
    have Z31 : Hid (W30.heap.size = w22.heap.size + 1) := Lib.hid (by rw [hW30]; simp)
    have B32 : Hid (Box W30 (w22.heap.size) 25 #[.int .i64 a0d0, .int .i64 a0d1, .int .i64 a0d2, .int .i64 a0d3, .bool a0d4, .bool a0d5, .bool a0d6, .bool a0d7, .slice x0vA8 a0d8.length x0vc8]) := Lib.hid (by rw [hW30]; exact (Box.new w22 25 #[.int .i64 a0d0, .int .i64 a0d1, .int .i64 a0d2, .int .i64 a0d3, .bool a0d4, .bool a0d5, .bool a0d6, .bool a0d7, .slice x0vA8 a0d8.length x0vc8]))
    have F33 := Lib.hid (F23.out.step hba)
    have F34 := Lib.hid (F24.out.step hba)
    have F35 := Lib.hid (F25.out.step hba)
    have F36 := Lib.hid (F26.out.step hba)
    have F37 := Lib.hid (F27.out.below hba)
    have F38 := Lib.hid (Nx0.out.below hba)
    have H39 := Lib.hid (bt H28.out hba)
    have Z40 : Hid (w22.heap.size ≤ W30.heap.size) := Lib.hid hba.size
    clear F23 F24 F25 F26 F27 Nx0 H28 hba
    have HW30 := Lib.hid hW30
    clear hW30
    have f0 : W30.cell? ⟨w.heap.size + 1, 0, none⟩ = some (.slice a1vA0 a1d0.length a1vc0) := F34.out.cell 0 rfl
    have f1 : W30.cell? ⟨w.heap.size + 1, 1, none⟩ = some (.slice a1vA1 a1d1.length a1vc1) := F34.out.cell 1 rfl
    have f2 : W30.cell? ⟨w.heap.size + 1, 2, none⟩ = some (.slice a1vA2 a1d2.length a1vc2) := F34.out.cell 2 rfl
    have f3 : W30.cell? ⟨w.heap.size + 1, 3, none⟩ = some (.slice a1vA3 a1d3.length a1vc3) := F34.out.cell 3 rfl
    have f4 : W30.cell? ⟨w.heap.size + 1, 4, none⟩ = some (.int .i64 a1d4) := F34.out.cell 4 rfl
    rw [HW30.out] at f0 f1 f2 f3 f4
    go_wp2_with fail
    rw [← HW30.out]
    refine (HTo1.out _ H39.out z1).mono ?_
    rintro e w41 ⟨x1vA0, x1vA1, x1vA2, x1vA3, x1vc0, x1vc1, x1vc2, x1vc3, rfl, Nx1, Kx1, hc⟩
    clear f0 f1 f2 f3 f4 HW30
    have F42 := Lib.hid (F33.out.step hc)
    have F43 := Lib.hid (F34.out.step hc)
    have F44 := Lib.hid (F35.out.step hc)
    have F45 := Lib.hid (F36.out.step hc)
    have F46 := Lib.hid (F37.out.below hc)
    have F47 := Lib.hid (F38.out.below hc)
    have F48 := Lib.hid (B32.out.step hc)
    have H49 := Lib.hid (bt H39.out hc)
    have Z50 : Hid (W30.heap.size ≤ w41.heap.size) := Lib.hid hc.size
    clear F33 F34 F35 F36 F37 F38 B32 H39 hc
    obtain ⟨W51, hW51⟩ : ∃ W51, W51 = (w41.alloc (.cells #[.slice x1vA0 a1d0.length x1vc0, .slice x1vA1 a1d1.length x1vc1, .slice x1vA2 a1d2.length x1vc2, .slice x1vA3 a1d3.length x1vc3, .int .i64 a1d4] 31)) := ⟨_, rfl⟩
    have hba : Below w41.heap.size w41 W51 := by rw [hW51]; exact ((Below.refl _ _).alloc (Nat.le_refl _) _)
    have Z52 : Hid (W51.heap.size = w41.heap.size + 1) := Lib.hid (by rw [hW51]; simp)
    have B53 : Hid (Box W51 (w41.heap.size) 31 #[.slice x1vA0 a1d0.length x1vc0, .slice x1vA1 a1d1.length x1vc1, .slice x1vA2 a1d2.length x1vc2, .slice x1vA3 a1d3.length x1vc3, .int .i64 a1d4]) := Lib.hid (by rw [hW51]; exact (Box.new w41 31 #[.slice x1vA0 a1d0.length x1vc0, .slice x1vA1 a1d1.length x1vc1, .slice x1vA2 a1d2.length x1vc2, .slice x1vA3 a1d3.length x1vc3, .int .i64 a1d4]))
    have F54 := Lib.hid (F42.out.step hba)
    have F55 := Lib.hid (F43.out.step hba)
    have F56 := Lib.hid (F44.out.step hba)
    have F57 := Lib.hid (F45.out.step hba)
    have F58 := Lib.hid (F46.out.below hba)
    have F59 := Lib.hid (F47.out.below hba)
    have F60 := Lib.hid (F48.out.step hba)
    have F61 := Lib.hid (Nx1.out.below hba)
    have H62 := Lib.hid (bt H49.out hba)
    have Z63 : Hid (w41.heap.size ≤ W51.heap.size) := Lib.hid hba.size
    clear F42 F43 F44 F45 F46 F47 F48 Nx1 H49 hba
    have HW51 := Lib.hid hW51
    clear hW51
    have f0 : W51.cell? ⟨w22.heap.size, 0, none⟩ = some (.int .i64 a0d0) := F60.out.cell 0 rfl
    have f1 : W51.cell? ⟨w22.heap.size, 1, none⟩ = some (.int .i64 a0d1) := F60.out.cell 1 rfl
    have f2 : W51.cell? ⟨w22.heap.size, 2, none⟩ = some (.int .i64 a0d2) := F60.out.cell 2 rfl
    have f3 : W51.cell? ⟨w22.heap.size, 3, none⟩ = some (.int .i64 a0d3) := F60.out.cell 3 rfl
    have f4 : W51.cell? ⟨w22.heap.size, 4, none⟩ = some (.bool a0d4) := F60.out.cell 4 rfl
    have f5 : W51.cell? ⟨w22.heap.size, 5, none⟩ = some (.bool a0d5) := F60.out.cell 5 rfl
    have f6 : W51.cell? ⟨w22.heap.size, 6, none⟩ = some (.bool a0d6) := F60.out.cell 6 rfl
    have f7 : W51.cell? ⟨w22.heap.size, 7, none⟩ = some (.bool a0d7) := F60.out.cell 7 rfl
    have f8 : W51.cell? ⟨w22.heap.size, 8, none⟩ = some (.slice x0vA8 a0d8.length x0vc8) := F60.out.cell 8 rfl
    rw [HW51.out] at f0 f1 f2 f3 f4 f5 f6 f7 f8
    go_wp2_with fail
    rw [← HW51.out]
    refine (HImpl.out W51 x0vA8 x0vc8 x1vA0 x1vA1 x1vA2 x1vA3 x1vc0 x1vc1 x1vc2 x1vc3 F59.out.reads Kx0.out z0 F61.out.reads Kx1.out z1 (HT.out.below (H62.out))).mono ?_
    rintro e w64 ⟨g0vA8, g1vA0, g1vA1, g1vA2, g1vA3, g0vc8, g1vc0, g1vc1, g1vc2, g1vc3, rfl, Ng, hc⟩
    clear f0 f1 f2 f3 f4 f5 f6 f7 f8 HW51
    have F65 := Lib.hid (F54.out.step hc)
    have F66 := Lib.hid (F55.out.step hc)
    have F67 := Lib.hid (F56.out.step hc)
    have F68 := Lib.hid (F57.out.step hc)
    have F69 := Lib.hid (F58.out.below hc)
    have F70 := Lib.hid (F59.out.below hc)
    have F71 := Lib.hid (F60.out.step hc)
    have F72 := Lib.hid (F61.out.below hc)
    have F73 := Lib.hid (B53.out.step hc)
    have H74 := Lib.hid (bt H62.out hc)
    have Z75 : Hid (W51.heap.size ≤ w64.heap.size) := Lib.hid hc.size
    clear F54 F55 F56 F57 F58 F59 F60 F61 B53 H62 hc
    obtain ⟨W76, hW76⟩ : ∃ W76, W76 = ((w64.alloc (.cells #[.int .i64 r0d0, .int .i64 r0d1, .int .i64 r0d2, .int .i64 r0d3, .bool r0d4, .bool r0d5, .bool r0d6, .bool r0d7, .slice g0vA8 r0d8.length g0vc8] 25)).alloc (.cells #[.slice g1vA0 r1d0.length g1vc0, .slice g1vA1 r1d1.length g1vc1, .slice g1vA2 r1d2.length g1vc2, .slice g1vA3 r1d3.length g1vc3, .int .i64 r1d4] 31)) := ⟨_, rfl⟩
    have hba : Below w64.heap.size w64 W76 := by rw [hW76]; exact (((Below.refl _ _).alloc (Nat.le_refl _) _).alloc (by simp; try omega) _)
    have Z77 : Hid (W76.heap.size = w64.heap.size + 2) := Lib.hid (by rw [hW76]; simp)
    have B78 : Hid (Box W76 (w64.heap.size) 25 #[.int .i64 r0d0, .int .i64 r0d1, .int .i64 r0d2, .int .i64 r0d3, .bool r0d4, .bool r0d5, .bool r0d6, .bool r0d7, .slice g0vA8 r0d8.length g0vc8]) := Lib.hid (by rw [hW76]; exact ((Box.new w64 25 #[.int .i64 r0d0, .int .i64 r0d1, .int .i64 r0d2, .int .i64 r0d3, .bool r0d4, .bool r0d5, .bool r0d6, .bool r0d7, .slice g0vA8 r0d8.length g0vc8]).alloc (.cells #[.slice g1vA0 r1d0.length g1vc0, .slice g1vA1 r1d1.length g1vc1, .slice g1vA2 r1d2.length g1vc2, .slice g1vA3 r1d3.length g1vc3, .int .i64 r1d4] 31)))
    have B79 : Hid (Box W76 (w64.heap.size + 1) 31 #[.slice g1vA0 r1d0.length g1vc0, .slice g1vA1 r1d1.length g1vc1, .slice g1vA2 r1d2.length g1vc2, .slice g1vA3 r1d3.length g1vc3, .int .i64 r1d4]) := Lib.hid (by rw [hW76]; simpa using (Box.new (w64.alloc (.cells #[.int .i64 r0d0, .int .i64 r0d1, .int .i64 r0d2, .int .i64 r0d3, .bool r0d4, .bool r0d5, .bool r0d6, .bool r0d7, .slice g0vA8 r0d8.length g0vc8] 25)) 31 #[.slice g1vA0 r1d0.length g1vc0, .slice g1vA1 r1d1.length g1vc1, .slice g1vA2 r1d2.length g1vc2, .slice g1vA3 r1d3.length g1vc3, .int .i64 r1d4]))
    have F80 := Lib.hid (F65.out.step hba)
    have F81 := Lib.hid (F66.out.step hba)
    have F82 := Lib.hid (F67.out.step hba)
    have F83 := Lib.hid (F68.out.step hba)
    have F84 := Lib.hid (F69.out.below hba)
    have F85 := Lib.hid (F70.out.below hba)
    have F86 := Lib.hid (F71.out.step hba)
    have F87 := Lib.hid (F72.out.below hba)
    have F88 := Lib.hid (F73.out.step hba)
    have F89 := Lib.hid (Ng.out.below hba)
    have H90 := Lib.hid (bt H74.out hba)
    have Z91 : Hid (w64.heap.size ≤ W76.heap.size) := Lib.hid hba.size
    clear F65 F66 F67 F68 F69 F70 F71 F72 F73 Ng H74 hba
    have HW76 := Lib.hid hW76
    clear hW76
    have f0 : W76.cell? ⟨bw0, 0, none⟩ = some (.int .i64 r0d0) := F82.out.cell 0 rfl
    have f1 : W76.cell? ⟨bw0, 1, none⟩ = some (.int .i64 r0d1) := F82.out.cell 1 rfl
    have f2 : W76.cell? ⟨bw0, 2, none⟩ = some (.int .i64 r0d2) := F82.out.cell 2 rfl
    have f3 : W76.cell? ⟨bw0, 3, none⟩ = some (.int .i64 r0d3) := F82.out.cell 3 rfl
    have f4 : W76.cell? ⟨bw0, 4, none⟩ = some (.bool r0d4) := F82.out.cell 4 rfl
    have f5 : W76.cell? ⟨bw0, 5, none⟩ = some (.bool r0d5) := F82.out.cell 5 rfl
    have f6 : W76.cell? ⟨bw0, 6, none⟩ = some (.bool r0d6) := F82.out.cell 6 rfl
    have f7 : W76.cell? ⟨bw0, 7, none⟩ = some (.bool r0d7) := F82.out.cell 7 rfl
    have f8 : W76.cell? ⟨bw0, 8, none⟩ = some (.slice w0vA8 r0d8.length w0vc8) := F82.out.cell 8 rfl
    rw [HW76.out] at f0 f1 f2 f3 f4 f5 f6 f7 f8
    go_wp2_with fail
    rw [← HW76.out]
    refine (eqCpuA g0vA8 g0vc8 w0vA8 w0vc8 r0d0 r0d1 r0d2 r0d3 r0d4 r0d5 r0d6 r0d7 r0d8 W76 (OwnA.seg (a := []) (m := [.slice g0vA8 r0d8.length g0vc8]) (b := [.slice g1vA0 r1d0.length g1vc0, .slice g1vA1 r1d1.length g1vc1, .slice g1vA2 r1d2.length g1vc2, .slice g1vA3 r1d3.length g1vc3]) (da := []) (dm := [Lf.I r0d8]) (db := [Lf.I r1d0, Lf.I r1d1, Lf.I r1d2, Lf.B r1d3]) F89.out rfl rfl).reads (OwnA.seg (a := []) (m := [.slice w0vA8 r0d8.length w0vc8]) (b := [.slice w1vA0 r1d0.length w1vc0, .slice w1vA1 r1d1.length w1vc1, .slice w1vA2 r1d2.length w1vc2, .slice w1vA3 r1d3.length w1vc3]) (da := []) (dm := [Lf.I r0d8]) (db := [Lf.I r1d0, Lf.I r1d1, Lf.I r1d2, Lf.B r1d3]) F84.out rfl rfl).reads (Nat.le_trans HBr0.out (by unfold maxLen; omega))).mono ?_
    rintro e w92 ⟨rfl, hc⟩
    clear f0 f1 f2 f3 f4 f5 f6 f7 f8 HW76
    have F93 := Lib.hid (F80.out.step hc)
    have F94 := Lib.hid (F81.out.step hc)
    have F95 := Lib.hid (F82.out.step hc)
    have F96 := Lib.hid (F83.out.step hc)
    have F97 := Lib.hid (F84.out.below hc)
    have F98 := Lib.hid (F85.out.below hc)
    have F99 := Lib.hid (F86.out.step hc)
    have F100 := Lib.hid (F87.out.below hc)
    have F101 := Lib.hid (F88.out.step hc)
    have F102 := Lib.hid (F89.out.below hc)
    have F103 := Lib.hid (B78.out.step hc)
    have F104 := Lib.hid (B79.out.step hc)
    have H105 := Lib.hid (bt H90.out hc)
    have Z106 : Hid (W76.heap.size ≤ w92.heap.size) := Lib.hid hc.size
    clear F80 F81 F82 F83 F84 F85 F86 F87 F88 F89 B78 B79 H90 hc
    have f0 : w92.cell? ⟨w64.heap.size + 1, 0, none⟩ = some (.slice g1vA0 r1d0.length g1vc0) := F104.out.cell 0 rfl
    have f1 : w92.cell? ⟨w64.heap.size + 1, 1, none⟩ = some (.slice g1vA1 r1d1.length g1vc1) := F104.out.cell 1 rfl
    have f2 : w92.cell? ⟨w64.heap.size + 1, 2, none⟩ = some (.slice g1vA2 r1d2.length g1vc2) := F104.out.cell 2 rfl
    have f3 : w92.cell? ⟨w64.heap.size + 1, 3, none⟩ = some (.slice g1vA3 r1d3.length g1vc3) := F104.out.cell 3 rfl
    have f4 : w92.cell? ⟨w64.heap.size + 1, 4, none⟩ = some (.int .i64 r1d4) := F104.out.cell 4 rfl
    have f5 : w92.cell? ⟨bw1, 0, none⟩ = some (.slice w1vA0 r1d0.length w1vc0) := F96.out.cell 0 rfl
    have f6 : w92.cell? ⟨bw1, 1, none⟩ = some (.slice w1vA1 r1d1.length w1vc1) := F96.out.cell 1 rfl
    have f7 : w92.cell? ⟨bw1, 2, none⟩ = some (.slice w1vA2 r1d2.length w1vc2) := F96.out.cell 2 rfl
    have f8 : w92.cell? ⟨bw1, 3, none⟩ = some (.slice w1vA3 r1d3.length w1vc3) := F96.out.cell 3 rfl
    have f9 : w92.cell? ⟨bw1, 4, none⟩ = some (.int .i64 r1d4) := F96.out.cell 4 rfl
    go_wp2_with fail
    refine (eqMemA g1vA0 g1vA1 g1vA2 g1vA3 g1vc0 g1vc1 g1vc2 g1vc3 w1vA0 w1vA1 w1vA2 w1vA3 w1vc0 w1vc1 w1vc2 w1vc3 r1d0 r1d1 r1d2 r1d3 r1d4 w92 (OwnA.seg (a := [.slice g0vA8 r0d8.length g0vc8]) (m := [.slice g1vA0 r1d0.length g1vc0, .slice g1vA1 r1d1.length g1vc1, .slice g1vA2 r1d2.length g1vc2, .slice g1vA3 r1d3.length g1vc3]) (b := []) (da := [Lf.I r0d8]) (dm := [Lf.I r1d0, Lf.I r1d1, Lf.I r1d2, Lf.B r1d3]) (db := []) F102.out rfl rfl).reads (OwnA.seg (a := [.slice w0vA8 r0d8.length w0vc8]) (m := [.slice w1vA0 r1d0.length w1vc0, .slice w1vA1 r1d1.length w1vc1, .slice w1vA2 r1d2.length w1vc2, .slice w1vA3 r1d3.length w1vc3]) (b := []) (da := [Lf.I r0d8]) (dm := [Lf.I r1d0, Lf.I r1d1, Lf.I r1d2, Lf.B r1d3]) (db := []) F97.out rfl rfl).reads (Nat.le_trans HBr1.out (by unfold maxLen; omega))).mono ?_
    rintro e w107 ⟨rfl, hc⟩
    clear f0 f1 f2 f3 f4 f5 f6 f7 f8 f9
    have F108 := Lib.hid (F93.out.step hc)
    have F109 := Lib.hid (F94.out.step hc)
    have F110 := Lib.hid (F95.out.step hc)
    have F111 := Lib.hid (F96.out.step hc)
    have F112 := Lib.hid (F97.out.below hc)
    have F113 := Lib.hid (F98.out.below hc)
    have F114 := Lib.hid (F99.out.step hc)
    have F115 := Lib.hid (F100.out.below hc)
    have F116 := Lib.hid (F101.out.step hc)
    have F117 := Lib.hid (F102.out.below hc)
    have F118 := Lib.hid (F103.out.step hc)
    have F119 := Lib.hid (F104.out.step hc)
    have H120 := Lib.hid (bt H105.out hc)
    have Z121 : Hid (w92.heap.size ≤ w107.heap.size) := Lib.hid hc.size
    clear F93 F94 F95 F96 F97 F98 F99 F100 F101 F102 F103 F104 H105 hc
    have f0 : w107.cell? ⟨w.heap.size, 0, none⟩ = some (.int .i64 a0d0) := F108.out.cell 0 rfl
    have f1 : w107.cell? ⟨w.heap.size, 1, none⟩ = some (.int .i64 a0d1) := F108.out.cell 1 rfl
    have f2 : w107.cell? ⟨w.heap.size, 2, none⟩ = some (.int .i64 a0d2) := F108.out.cell 2 rfl
    have f3 : w107.cell? ⟨w.heap.size, 3, none⟩ = some (.int .i64 a0d3) := F108.out.cell 3 rfl
    have f4 : w107.cell? ⟨w.heap.size, 4, none⟩ = some (.bool a0d4) := F108.out.cell 4 rfl
    have f5 : w107.cell? ⟨w.heap.size, 5, none⟩ = some (.bool a0d5) := F108.out.cell 5 rfl
    have f6 : w107.cell? ⟨w.heap.size, 6, none⟩ = some (.bool a0d6) := F108.out.cell 6 rfl
    have f7 : w107.cell? ⟨w.heap.size, 7, none⟩ = some (.bool a0d7) := F108.out.cell 7 rfl
    have f8 : w107.cell? ⟨w.heap.size, 8, none⟩ = some (.slice a0vA8 a0d8.length a0vc8) := F108.out.cell 8 rfl
    have f9 : w107.cell? ⟨w22.heap.size, 0, none⟩ = some (.int .i64 a0d0) := F114.out.cell 0 rfl
    have f10 : w107.cell? ⟨w22.heap.size, 1, none⟩ = some (.int .i64 a0d1) := F114.out.cell 1 rfl
    have f11 : w107.cell? ⟨w22.heap.size, 2, none⟩ = some (.int .i64 a0d2) := F114.out.cell 2 rfl
    have f12 : w107.cell? ⟨w22.heap.size, 3, none⟩ = some (.int .i64 a0d3) := F114.out.cell 3 rfl
    have f13 : w107.cell? ⟨w22.heap.size, 4, none⟩ = some (.bool a0d4) := F114.out.cell 4 rfl
    have f14 : w107.cell? ⟨w22.heap.size, 5, none⟩ = some (.bool a0d5) := F114.out.cell 5 rfl
    have f15 : w107.cell? ⟨w22.heap.size, 6, none⟩ = some (.bool a0d6) := F114.out.cell 6 rfl
    have f16 : w107.cell? ⟨w22.heap.size, 7, none⟩ = some (.bool a0d7) := F114.out.cell 7 rfl
    have f17 : w107.cell? ⟨w22.heap.size, 8, none⟩ = some (.slice x0vA8 a0d8.length x0vc8) := F114.out.cell 8 rfl
    have HK := Lib.hid (fun W' (hb : Below w107.heap.size w107 W') => And.intro ((hb.cell (cell_lt f0)).trans f0) (And.intro ((hb.cell (cell_lt f1)).trans f1) (And.intro ((hb.cell (cell_lt f2)).trans f2) (And.intro ((hb.cell (cell_lt f3)).trans f3) (And.intro ((hb.cell (cell_lt f4)).trans f4) (And.intro ((hb.cell (cell_lt f5)).trans f5) (And.intro ((hb.cell (cell_lt f6)).trans f6) (And.intro ((hb.cell (cell_lt f7)).trans f7) (And.intro ((hb.cell (cell_lt f8)).trans f8) (And.intro ((hb.cell (cell_lt f9)).trans f9) (And.intro ((hb.cell (cell_lt f10)).trans f10) (And.intro ((hb.cell (cell_lt f11)).trans f11) (And.intro ((hb.cell (cell_lt f12)).trans f12) (And.intro ((hb.cell (cell_lt f13)).trans f13) (And.intro ((hb.cell (cell_lt f14)).trans f14) (And.intro ((hb.cell (cell_lt f15)).trans f15) (And.intro ((hb.cell (cell_lt f16)).trans f16) ((hb.cell (cell_lt f17)).trans f17))))))))))))))))))
    have h6 : Below w107.heap.size w107 w107.drew := (Below.refl _ _).drew
    go_wp2
    go_region_held3 (fun W => W.cell? ⟨w.heap.size, 0, none⟩ = some (.int .i64 a0d0) ∧ W.cell? ⟨w.heap.size, 1, none⟩ = some (.int .i64 a0d1) ∧ W.cell? ⟨w.heap.size, 2, none⟩ = some (.int .i64 a0d2) ∧ W.cell? ⟨w.heap.size, 3, none⟩ = some (.int .i64 a0d3) ∧ W.cell? ⟨w.heap.size, 4, none⟩ = some (.bool a0d4) ∧ W.cell? ⟨w.heap.size, 5, none⟩ = some (.bool a0d5) ∧ W.cell? ⟨w.heap.size, 6, none⟩ = some (.bool a0d6) ∧ W.cell? ⟨w.heap.size, 7, none⟩ = some (.bool a0d7) ∧ W.cell? ⟨w.heap.size, 8, none⟩ = some (.slice a0vA8 a0d8.length a0vc8) ∧ W.cell? ⟨w22.heap.size, 0, none⟩ = some (.int .i64 a0d0) ∧ W.cell? ⟨w22.heap.size, 1, none⟩ = some (.int .i64 a0d1) ∧ W.cell? ⟨w22.heap.size, 2, none⟩ = some (.int .i64 a0d2) ∧ W.cell? ⟨w22.heap.size, 3, none⟩ = some (.int .i64 a0d3) ∧ W.cell? ⟨w22.heap.size, 4, none⟩ = some (.bool a0d4) ∧ W.cell? ⟨w22.heap.size, 5, none⟩ = some (.bool a0d5) ∧ W.cell? ⟨w22.heap.size, 6, none⟩ = some (.bool a0d6) ∧ W.cell? ⟨w22.heap.size, 7, none⟩ = some (.bool a0d7) ∧ W.cell? ⟨w22.heap.size, 8, none⟩ = some (.slice x0vA8 a0d8.length x0vc8))
      (first | exact HK.out _ h6 | exact HK.out _ (bt h6 hba) | exact HK.out _ (bt (bt h6 hba) hbb))
      (first | (go_at_call 20; refine (HTo0.out _ H120.out.drew z0).mono ?_; rintro e w123 ⟨t122vA8, t122vc8, rfl, Nt122, Kt122, hba⟩) | (go_at_call 22; refine (eqCpuA x0vA8 x0vc8 t122vA8 t122vc8 a0d0 a0d1 a0d2 a0d3 a0d4 a0d5 a0d6 a0d7 a0d8 w123 (F113.out.below (bt h6 hba)).reads Nt122.out.reads (Nat.le_trans (szA_len _) (by have := z0; unfold maxLen; omega))).mono ?_; rintro e w124 ⟨rfl, hbb⟩))
    have hc : Below w107.heap.size w107 w124 := bt (bt h6 hba) hbb
    have F125 := Lib.hid (F108.out.step hc)
    have F126 := Lib.hid (F109.out.step hc)
    have F127 := Lib.hid (F110.out.step hc)
    have F128 := Lib.hid (F111.out.step hc)
    have F129 := Lib.hid (F112.out.below hc)
    have F130 := Lib.hid (F113.out.below hc)
    have F131 := Lib.hid (F114.out.step hc)
    have F132 := Lib.hid (F115.out.below hc)
    have F133 := Lib.hid (F116.out.step hc)
    have F134 := Lib.hid (F117.out.below hc)
    have F135 := Lib.hid (F118.out.step hc)
    have F136 := Lib.hid (F119.out.step hc)
    have H137 := Lib.hid (bt H120.out hc)
    have Z138 : Hid (w107.heap.size ≤ w124.heap.size) := Lib.hid hc.size
    clear F108 F109 F110 F111 F112 F113 F114 F115 F116 F117 F118 F119 H120 hc
    clear HK h6 hba hbb Nt122 Kt122 f0 f1 f2 f3 f4 f5 f6 f7 f8 f9 f10 f11 f12 f13 f14 f15 f16 f17
    have f0 : w124.cell? ⟨w.heap.size + 1, 0, none⟩ = some (.slice a1vA0 a1d0.length a1vc0) := F126.out.cell 0 rfl
    have f1 : w124.cell? ⟨w.heap.size + 1, 1, none⟩ = some (.slice a1vA1 a1d1.length a1vc1) := F126.out.cell 1 rfl
    have f2 : w124.cell? ⟨w.heap.size + 1, 2, none⟩ = some (.slice a1vA2 a1d2.length a1vc2) := F126.out.cell 2 rfl
    have f3 : w124.cell? ⟨w.heap.size + 1, 3, none⟩ = some (.slice a1vA3 a1d3.length a1vc3) := F126.out.cell 3 rfl
    have f4 : w124.cell? ⟨w.heap.size + 1, 4, none⟩ = some (.int .i64 a1d4) := F126.out.cell 4 rfl
    have f5 : w124.cell? ⟨w41.heap.size, 0, none⟩ = some (.slice x1vA0 a1d0.length x1vc0) := F133.out.cell 0 rfl
    have f6 : w124.cell? ⟨w41.heap.size, 1, none⟩ = some (.slice x1vA1 a1d1.length x1vc1) := F133.out.cell 1 rfl
    have f7 : w124.cell? ⟨w41.heap.size, 2, none⟩ = some (.slice x1vA2 a1d2.length x1vc2) := F133.out.cell 2 rfl
    have f8 : w124.cell? ⟨w41.heap.size, 3, none⟩ = some (.slice x1vA3 a1d3.length x1vc3) := F133.out.cell 3 rfl
    have f9 : w124.cell? ⟨w41.heap.size, 4, none⟩ = some (.int .i64 a1d4) := F133.out.cell 4 rfl
    have HK := Lib.hid (fun W' (hb : Below w124.heap.size w124 W') => And.intro ((hb.cell (cell_lt f0)).trans f0) (And.intro ((hb.cell (cell_lt f1)).trans f1) (And.intro ((hb.cell (cell_lt f2)).trans f2) (And.intro ((hb.cell (cell_lt f3)).trans f3) (And.intro ((hb.cell (cell_lt f4)).trans f4) (And.intro ((hb.cell (cell_lt f5)).trans f5) (And.intro ((hb.cell (cell_lt f6)).trans f6) (And.intro ((hb.cell (cell_lt f7)).trans f7) (And.intro ((hb.cell (cell_lt f8)).trans f8) ((hb.cell (cell_lt f9)).trans f9))))))))))
    have h6 : Below w124.heap.size w124 w124.drew := (Below.refl _ _).drew
    go_wp2
    go_region_held3 (fun W => W.cell? ⟨w.heap.size + 1, 0, none⟩ = some (.slice a1vA0 a1d0.length a1vc0) ∧ W.cell? ⟨w.heap.size + 1, 1, none⟩ = some (.slice a1vA1 a1d1.length a1vc1) ∧ W.cell? ⟨w.heap.size + 1, 2, none⟩ = some (.slice a1vA2 a1d2.length a1vc2) ∧ W.cell? ⟨w.heap.size + 1, 3, none⟩ = some (.slice a1vA3 a1d3.length a1vc3) ∧ W.cell? ⟨w.heap.size + 1, 4, none⟩ = some (.int .i64 a1d4) ∧ W.cell? ⟨w41.heap.size, 0, none⟩ = some (.slice x1vA0 a1d0.length x1vc0) ∧ W.cell? ⟨w41.heap.size, 1, none⟩ = some (.slice x1vA1 a1d1.length x1vc1) ∧ W.cell? ⟨w41.heap.size, 2, none⟩ = some (.slice x1vA2 a1d2.length x1vc2) ∧ W.cell? ⟨w41.heap.size, 3, none⟩ = some (.slice x1vA3 a1d3.length x1vc3) ∧ W.cell? ⟨w41.heap.size, 4, none⟩ = some (.int .i64 a1d4))
      (first | exact HK.out _ h6 | exact HK.out _ (bt h6 hba) | exact HK.out _ (bt (bt h6 hba) hbb))
      (first | (go_at_call 21; refine (HTo1.out _ H137.out.drew z1).mono ?_; rintro e w140 ⟨t139vA0, t139vA1, t139vA2, t139vA3, t139vc0, t139vc1, t139vc2, t139vc3, rfl, Nt139, Kt139, hba⟩) | (go_at_call 23; refine (eqMemA x1vA0 x1vA1 x1vA2 x1vA3 x1vc0 x1vc1 x1vc2 x1vc3 t139vA0 t139vA1 t139vA2 t139vA3 t139vc0 t139vc1 t139vc2 t139vc3 a1d0 a1d1 a1d2 a1d3 a1d4 w140 (F132.out.below (bt h6 hba)).reads Nt139.out.reads (Nat.le_trans (szA_len _) (by have := z1; unfold maxLen; omega))).mono ?_; rintro e w141 ⟨rfl, hbb⟩))
    have hc : Below w124.heap.size w124 w141 := bt (bt h6 hba) hbb
    have F142 := Lib.hid (F125.out.step hc)
    have F143 := Lib.hid (F126.out.step hc)
    have F144 := Lib.hid (F127.out.step hc)
    have F145 := Lib.hid (F128.out.step hc)
    have F146 := Lib.hid (F129.out.below hc)
    have F147 := Lib.hid (F130.out.below hc)
    have F148 := Lib.hid (F131.out.step hc)
    have F149 := Lib.hid (F132.out.below hc)
    have F150 := Lib.hid (F133.out.step hc)
    have F151 := Lib.hid (F134.out.below hc)
    have F152 := Lib.hid (F135.out.step hc)
    have F153 := Lib.hid (F136.out.step hc)
    have H154 := Lib.hid (bt H137.out hc)
    have Z155 : Hid (w124.heap.size ≤ w141.heap.size) := Lib.hid hc.size
    clear F125 F126 F127 F128 F129 F130 F131 F132 F133 F134 F135 F136 H137 hc
    clear HK h6 hba hbb Nt139 Kt139 f0 f1 f2 f3 f4 f5 f6 f7 f8 f9
    have f0 : w141.cell? ⟨w22.heap.size, 0, none⟩ = some (.int .i64 a0d0) := F148.out.cell 0 rfl
    have f1 : w141.cell? ⟨w22.heap.size, 1, none⟩ = some (.int .i64 a0d1) := F148.out.cell 1 rfl
    have f2 : w141.cell? ⟨w22.heap.size, 2, none⟩ = some (.int .i64 a0d2) := F148.out.cell 2 rfl
    have f3 : w141.cell? ⟨w22.heap.size, 3, none⟩ = some (.int .i64 a0d3) := F148.out.cell 3 rfl
    have f4 : w141.cell? ⟨w22.heap.size, 4, none⟩ = some (.bool a0d4) := F148.out.cell 4 rfl
    have f5 : w141.cell? ⟨w22.heap.size, 5, none⟩ = some (.bool a0d5) := F148.out.cell 5 rfl
    have f6 : w141.cell? ⟨w22.heap.size, 6, none⟩ = some (.bool a0d6) := F148.out.cell 6 rfl
    have f7 : w141.cell? ⟨w22.heap.size, 7, none⟩ = some (.bool a0d7) := F148.out.cell 7 rfl
    have f8 : w141.cell? ⟨w22.heap.size, 8, none⟩ = some (.slice x0vA8 a0d8.length x0vc8) := F148.out.cell 8 rfl
    go_wp2_with fail
    have hk0 : (1 : Nat) ≤ 1 := Nat.le_refl _
    have hlx : lenA [Lf.I a0d8] ≤ 16777216 := Nat.le_trans (szA_len _) (by have := z0; omega)
    have HM := Lib.hid (markCpuA x0vA8 x0vc8 a0d0 a0d1 a0d2 a0d3 a0d4 a0d5 a0d6 a0d7 a0d8 1 w17.heap.size w22.heap.size w141 F147.out (by have := Z2.out; have := Z6.out; have := Z11.out; have := Z16.out; have := Z21.out; have := Zbw0.out; have := Zbw1.out; have := Z29.out; have := Z31.out; have := Z40.out; have := Z50.out; have := Z52.out; have := Z63.out; have := Z75.out; have := Z77.out; have := Z91.out; have := Z106.out; have := Z121.out; have := Z138.out; have := Z155.out; omega) (by omega) (BndA.of_len (by omega)) (by omega))
    clear hlx hk0
    refine HM.out.mono ?_
    rintro e w156 ⟨rfl, M1, U1⟩
    clear HM M1
    clear f0 f1 f2 f3 f4 f5 f6 f7 f8
    have U2 := U1.btw F147.out
    have F157 := Lib.hid (F142.out.btw U2 (by have := Z2.out; have := Z6.out; have := Z11.out; have := Z16.out; have := Z21.out; have := Zbw0.out; have := Zbw1.out; have := Z29.out; have := Z31.out; have := Z40.out; have := Z50.out; have := Z52.out; have := Z63.out; have := Z75.out; have := Z77.out; have := Z91.out; have := Z106.out; have := Z121.out; have := Z138.out; have := Z155.out; omega))
    have F158 := Lib.hid (F143.out.btw U2 (by have := Z2.out; have := Z6.out; have := Z11.out; have := Z16.out; have := Z21.out; have := Zbw0.out; have := Zbw1.out; have := Z29.out; have := Z31.out; have := Z40.out; have := Z50.out; have := Z52.out; have := Z63.out; have := Z75.out; have := Z77.out; have := Z91.out; have := Z106.out; have := Z121.out; have := Z138.out; have := Z155.out; omega))
    have F159 := Lib.hid (F144.out.btw U2 (by have := Z2.out; have := Z6.out; have := Z11.out; have := Z16.out; have := Z21.out; have := Zbw0.out; have := Zbw1.out; have := Z29.out; have := Z31.out; have := Z40.out; have := Z50.out; have := Z52.out; have := Z63.out; have := Z75.out; have := Z77.out; have := Z91.out; have := Z106.out; have := Z121.out; have := Z138.out; have := Z155.out; omega))
    have F160 := Lib.hid (F145.out.btw U2 (by have := Z2.out; have := Z6.out; have := Z11.out; have := Z16.out; have := Z21.out; have := Zbw0.out; have := Zbw1.out; have := Z29.out; have := Z31.out; have := Z40.out; have := Z50.out; have := Z52.out; have := Z63.out; have := Z75.out; have := Z77.out; have := Z91.out; have := Z106.out; have := Z121.out; have := Z138.out; have := Z155.out; omega))
    have F161 := Lib.hid (F146.out.btw U2 (by have := Z2.out; have := Z6.out; have := Z11.out; have := Z16.out; have := Z21.out; have := Zbw0.out; have := Zbw1.out; have := Z29.out; have := Z31.out; have := Z40.out; have := Z50.out; have := Z52.out; have := Z63.out; have := Z75.out; have := Z77.out; have := Z91.out; have := Z106.out; have := Z121.out; have := Z138.out; have := Z155.out; omega))
    have F162 := Lib.hid (F148.out.btw U2 (by have := Z2.out; have := Z6.out; have := Z11.out; have := Z16.out; have := Z21.out; have := Zbw0.out; have := Zbw1.out; have := Z29.out; have := Z31.out; have := Z40.out; have := Z50.out; have := Z52.out; have := Z63.out; have := Z75.out; have := Z77.out; have := Z91.out; have := Z106.out; have := Z121.out; have := Z138.out; have := Z155.out; omega))
    have F163 := Lib.hid (F149.out.btw U2 (by have := Z2.out; have := Z6.out; have := Z11.out; have := Z16.out; have := Z21.out; have := Zbw0.out; have := Zbw1.out; have := Z29.out; have := Z31.out; have := Z40.out; have := Z50.out; have := Z52.out; have := Z63.out; have := Z75.out; have := Z77.out; have := Z91.out; have := Z106.out; have := Z121.out; have := Z138.out; have := Z155.out; omega))
    have F164 := Lib.hid (F150.out.btw U2 (by have := Z2.out; have := Z6.out; have := Z11.out; have := Z16.out; have := Z21.out; have := Zbw0.out; have := Zbw1.out; have := Z29.out; have := Z31.out; have := Z40.out; have := Z50.out; have := Z52.out; have := Z63.out; have := Z75.out; have := Z77.out; have := Z91.out; have := Z106.out; have := Z121.out; have := Z138.out; have := Z155.out; omega))
    have F165 := Lib.hid (F151.out.btw U2 (by have := Z2.out; have := Z6.out; have := Z11.out; have := Z16.out; have := Z21.out; have := Zbw0.out; have := Zbw1.out; have := Z29.out; have := Z31.out; have := Z40.out; have := Z50.out; have := Z52.out; have := Z63.out; have := Z75.out; have := Z77.out; have := Z91.out; have := Z106.out; have := Z121.out; have := Z138.out; have := Z155.out; omega))
    have F166 := Lib.hid (F152.out.btw U2 (by have := Z2.out; have := Z6.out; have := Z11.out; have := Z16.out; have := Z21.out; have := Zbw0.out; have := Zbw1.out; have := Z29.out; have := Z31.out; have := Z40.out; have := Z50.out; have := Z52.out; have := Z63.out; have := Z75.out; have := Z77.out; have := Z91.out; have := Z106.out; have := Z121.out; have := Z138.out; have := Z155.out; omega))
    have F167 := Lib.hid (F153.out.btw U2 (by have := Z2.out; have := Z6.out; have := Z11.out; have := Z16.out; have := Z21.out; have := Zbw0.out; have := Zbw1.out; have := Z29.out; have := Z31.out; have := Z40.out; have := Z50.out; have := Z52.out; have := Z63.out; have := Z75.out; have := Z77.out; have := Z91.out; have := Z106.out; have := Z121.out; have := Z138.out; have := Z155.out; omega))
    have H168 := Lib.hid (H154.out.trans ((U2.below (by have := Z2.out; have := Z6.out; have := Z11.out; have := Z16.out; have := Z21.out; have := Zbw0.out; have := Zbw1.out; have := Z29.out; have := Z31.out; have := Z40.out; have := Z50.out; have := Z52.out; have := Z63.out; have := Z75.out; have := Z77.out; have := Z91.out; have := Z106.out; have := Z121.out; have := Z138.out; have := Z155.out; omega)).mono (by have := Z2.out; have := Z6.out; have := Z11.out; have := Z16.out; have := Z21.out; have := Zbw0.out; have := Zbw1.out; have := Z29.out; have := Z31.out; have := Z40.out; have := Z50.out; have := Z52.out; have := Z63.out; have := Z75.out; have := Z77.out; have := Z91.out; have := Z106.out; have := Z121.out; have := Z138.out; have := Z155.out; omega)))
    have Z169 : Hid (w141.heap.size ≤ w156.heap.size) := Lib.hid U2.size
    clear F142 F143 F144 F145 F146 F148 F149 F150 F151 F152 F153 H154
    clear U1 U2 F147
    generalize hk : 1 + lenA [Lf.I a0d8] = k170
    have hkk170 : 1 ≤ k170 ∧ k170 ≤ 1 + 16777216 := by have q1 := szA_len [Lf.I a0d8]; have q2 := z0; simp only [lenA] at q1 hk; omega
    clear hk
    have hnk170 : ¬ (k170 : Int) < 0 := by omega
    have f0 : w156.cell? ⟨w41.heap.size, 0, none⟩ = some (.slice x1vA0 a1d0.length x1vc0) := F164.out.cell 0 rfl
    have f1 : w156.cell? ⟨w41.heap.size, 1, none⟩ = some (.slice x1vA1 a1d1.length x1vc1) := F164.out.cell 1 rfl
    have f2 : w156.cell? ⟨w41.heap.size, 2, none⟩ = some (.slice x1vA2 a1d2.length x1vc2) := F164.out.cell 2 rfl
    have f3 : w156.cell? ⟨w41.heap.size, 3, none⟩ = some (.slice x1vA3 a1d3.length x1vc3) := F164.out.cell 3 rfl
    have f4 : w156.cell? ⟨w41.heap.size, 4, none⟩ = some (.int .i64 a1d4) := F164.out.cell 4 rfl
    go_wp2_with fail
    have hlx : lenA [Lf.I a1d0, Lf.I a1d1, Lf.I a1d2, Lf.B a1d3] ≤ 16777216 := Nat.le_trans (szA_len _) (by have := z1; omega)
    have HM := Lib.hid (markMemA x1vA0 x1vA1 x1vA2 x1vA3 x1vc0 x1vc1 x1vc2 x1vc3 a1d0 a1d1 a1d2 a1d3 a1d4 k170 W30.heap.size w41.heap.size w156 F163.out (by have := Z2.out; have := Z6.out; have := Z11.out; have := Z16.out; have := Z21.out; have := Zbw0.out; have := Zbw1.out; have := Z29.out; have := Z31.out; have := Z40.out; have := Z50.out; have := Z52.out; have := Z63.out; have := Z75.out; have := Z77.out; have := Z91.out; have := Z106.out; have := Z121.out; have := Z138.out; have := Z155.out; have := Z169.out; omega) (by omega) (BndA.of_len (by omega)) (by omega))
    clear hlx
    refine HM.out.mono ?_
    rintro e w171 ⟨rfl, M1, U1⟩
    clear HM M1
    clear f0 f1 f2 f3 f4
    have U2 := U1.btw F163.out
    have F172 := Lib.hid (F157.out.btw U2 (by have := Z2.out; have := Z6.out; have := Z11.out; have := Z16.out; have := Z21.out; have := Zbw0.out; have := Zbw1.out; have := Z29.out; have := Z31.out; have := Z40.out; have := Z50.out; have := Z52.out; have := Z63.out; have := Z75.out; have := Z77.out; have := Z91.out; have := Z106.out; have := Z121.out; have := Z138.out; have := Z155.out; have := Z169.out; omega))
    have F173 := Lib.hid (F158.out.btw U2 (by have := Z2.out; have := Z6.out; have := Z11.out; have := Z16.out; have := Z21.out; have := Zbw0.out; have := Zbw1.out; have := Z29.out; have := Z31.out; have := Z40.out; have := Z50.out; have := Z52.out; have := Z63.out; have := Z75.out; have := Z77.out; have := Z91.out; have := Z106.out; have := Z121.out; have := Z138.out; have := Z155.out; have := Z169.out; omega))
    have F174 := Lib.hid (F159.out.btw U2 (by have := Z2.out; have := Z6.out; have := Z11.out; have := Z16.out; have := Z21.out; have := Zbw0.out; have := Zbw1.out; have := Z29.out; have := Z31.out; have := Z40.out; have := Z50.out; have := Z52.out; have := Z63.out; have := Z75.out; have := Z77.out; have := Z91.out; have := Z106.out; have := Z121.out; have := Z138.out; have := Z155.out; have := Z169.out; omega))
    have F175 := Lib.hid (F160.out.btw U2 (by have := Z2.out; have := Z6.out; have := Z11.out; have := Z16.out; have := Z21.out; have := Zbw0.out; have := Zbw1.out; have := Z29.out; have := Z31.out; have := Z40.out; have := Z50.out; have := Z52.out; have := Z63.out; have := Z75.out; have := Z77.out; have := Z91.out; have := Z106.out; have := Z121.out; have := Z138.out; have := Z155.out; have := Z169.out; omega))
    have F176 := Lib.hid (F161.out.btw U2 (by have := Z2.out; have := Z6.out; have := Z11.out; have := Z16.out; have := Z21.out; have := Zbw0.out; have := Zbw1.out; have := Z29.out; have := Z31.out; have := Z40.out; have := Z50.out; have := Z52.out; have := Z63.out; have := Z75.out; have := Z77.out; have := Z91.out; have := Z106.out; have := Z121.out; have := Z138.out; have := Z155.out; have := Z169.out; omega))
    have F177 := Lib.hid (F162.out.btw U2 (by have := Z2.out; have := Z6.out; have := Z11.out; have := Z16.out; have := Z21.out; have := Zbw0.out; have := Zbw1.out; have := Z29.out; have := Z31.out; have := Z40.out; have := Z50.out; have := Z52.out; have := Z63.out; have := Z75.out; have := Z77.out; have := Z91.out; have := Z106.out; have := Z121.out; have := Z138.out; have := Z155.out; have := Z169.out; omega))
    have F178 := Lib.hid (F164.out.btw U2 (by have := Z2.out; have := Z6.out; have := Z11.out; have := Z16.out; have := Z21.out; have := Zbw0.out; have := Zbw1.out; have := Z29.out; have := Z31.out; have := Z40.out; have := Z50.out; have := Z52.out; have := Z63.out; have := Z75.out; have := Z77.out; have := Z91.out; have := Z106.out; have := Z121.out; have := Z138.out; have := Z155.out; have := Z169.out; omega))
    have F179 := Lib.hid (F165.out.btw U2 (by have := Z2.out; have := Z6.out; have := Z11.out; have := Z16.out; have := Z21.out; have := Zbw0.out; have := Zbw1.out; have := Z29.out; have := Z31.out; have := Z40.out; have := Z50.out; have := Z52.out; have := Z63.out; have := Z75.out; have := Z77.out; have := Z91.out; have := Z106.out; have := Z121.out; have := Z138.out; have := Z155.out; have := Z169.out; omega))
    have F180 := Lib.hid (F166.out.btw U2 (by have := Z2.out; have := Z6.out; have := Z11.out; have := Z16.out; have := Z21.out; have := Zbw0.out; have := Zbw1.out; have := Z29.out; have := Z31.out; have := Z40.out; have := Z50.out; have := Z52.out; have := Z63.out; have := Z75.out; have := Z77.out; have := Z91.out; have := Z106.out; have := Z121.out; have := Z138.out; have := Z155.out; have := Z169.out; omega))
    have F181 := Lib.hid (F167.out.btw U2 (by have := Z2.out; have := Z6.out; have := Z11.out; have := Z16.out; have := Z21.out; have := Zbw0.out; have := Zbw1.out; have := Z29.out; have := Z31.out; have := Z40.out; have := Z50.out; have := Z52.out; have := Z63.out; have := Z75.out; have := Z77.out; have := Z91.out; have := Z106.out; have := Z121.out; have := Z138.out; have := Z155.out; have := Z169.out; omega))
    have H182 := Lib.hid (H168.out.trans ((U2.below (by have := Z2.out; have := Z6.out; have := Z11.out; have := Z16.out; have := Z21.out; have := Zbw0.out; have := Zbw1.out; have := Z29.out; have := Z31.out; have := Z40.out; have := Z50.out; have := Z52.out; have := Z63.out; have := Z75.out; have := Z77.out; have := Z91.out; have := Z106.out; have := Z121.out; have := Z138.out; have := Z155.out; have := Z169.out; omega)).mono (by have := Z2.out; have := Z6.out; have := Z11.out; have := Z16.out; have := Z21.out; have := Zbw0.out; have := Zbw1.out; have := Z29.out; have := Z31.out; have := Z40.out; have := Z50.out; have := Z52.out; have := Z63.out; have := Z75.out; have := Z77.out; have := Z91.out; have := Z106.out; have := Z121.out; have := Z138.out; have := Z155.out; have := Z169.out; omega)))
    have Z183 : Hid (w156.heap.size ≤ w171.heap.size) := Lib.hid U2.size
    clear F157 F158 F159 F160 F161 F162 F164 F165 F166 F167 H168
    clear U1 U2 F163
    generalize hk : k170 + lenA [Lf.I a1d0, Lf.I a1d1, Lf.I a1d2, Lf.B a1d3] = k184
    have hkk184 : 1 ≤ k184 ∧ k184 ≤ k170 + 16777216 := by have q1 := szA_len [Lf.I a1d0, Lf.I a1d1, Lf.I a1d2, Lf.B a1d3]; have q2 := z1; simp only [lenA] at q1 hk; omega
    clear hk
    have hnk184 : ¬ (k184 : Int) < 0 := by omega
    have f0 : w171.cell? ⟨w64.heap.size, 0, none⟩ = some (.int .i64 r0d0) := F180.out.cell 0 rfl
    have f1 : w171.cell? ⟨w64.heap.size, 1, none⟩ = some (.int .i64 r0d1) := F180.out.cell 1 rfl
    have f2 : w171.cell? ⟨w64.heap.size, 2, none⟩ = some (.int .i64 r0d2) := F180.out.cell 2 rfl
    have f3 : w171.cell? ⟨w64.heap.size, 3, none⟩ = some (.int .i64 r0d3) := F180.out.cell 3 rfl
    have f4 : w171.cell? ⟨w64.heap.size, 4, none⟩ = some (.bool r0d4) := F180.out.cell 4 rfl
    have f5 : w171.cell? ⟨w64.heap.size, 5, none⟩ = some (.bool r0d5) := F180.out.cell 5 rfl
    have f6 : w171.cell? ⟨w64.heap.size, 6, none⟩ = some (.bool r0d6) := F180.out.cell 6 rfl
    have f7 : w171.cell? ⟨w64.heap.size, 7, none⟩ = some (.bool r0d7) := F180.out.cell 7 rfl
    have f8 : w171.cell? ⟨w64.heap.size, 8, none⟩ = some (.slice g0vA8 r0d8.length g0vc8) := F180.out.cell 8 rfl
    have f9 : w171.cell? ⟨bw0, 0, none⟩ = some (.int .i64 r0d0) := F174.out.cell 0 rfl
    have f10 : w171.cell? ⟨bw0, 1, none⟩ = some (.int .i64 r0d1) := F174.out.cell 1 rfl
    have f11 : w171.cell? ⟨bw0, 2, none⟩ = some (.int .i64 r0d2) := F174.out.cell 2 rfl
    have f12 : w171.cell? ⟨bw0, 3, none⟩ = some (.int .i64 r0d3) := F174.out.cell 3 rfl
    have f13 : w171.cell? ⟨bw0, 4, none⟩ = some (.bool r0d4) := F174.out.cell 4 rfl
    have f14 : w171.cell? ⟨bw0, 5, none⟩ = some (.bool r0d5) := F174.out.cell 5 rfl
    have f15 : w171.cell? ⟨bw0, 6, none⟩ = some (.bool r0d6) := F174.out.cell 6 rfl
    have f16 : w171.cell? ⟨bw0, 7, none⟩ = some (.bool r0d7) := F174.out.cell 7 rfl
    have f17 : w171.cell? ⟨bw0, 8, none⟩ = some (.slice w0vA8 r0d8.length w0vc8) := F174.out.cell 8 rfl
    go_wp2_with fail
    refine (eqCpuA g0vA8 g0vc8 w0vA8 w0vc8 r0d0 r0d1 r0d2 r0d3 r0d4 r0d5 r0d6 r0d7 r0d8 w171 (OwnA.seg (a := []) (m := [.slice g0vA8 r0d8.length g0vc8]) (b := [.slice g1vA0 r1d0.length g1vc0, .slice g1vA1 r1d1.length g1vc1, .slice g1vA2 r1d2.length g1vc2, .slice g1vA3 r1d3.length g1vc3]) (da := []) (dm := [Lf.I r0d8]) (db := [Lf.I r1d0, Lf.I r1d1, Lf.I r1d2, Lf.B r1d3]) F179.out rfl rfl).reads (OwnA.seg (a := []) (m := [.slice w0vA8 r0d8.length w0vc8]) (b := [.slice w1vA0 r1d0.length w1vc0, .slice w1vA1 r1d1.length w1vc1, .slice w1vA2 r1d2.length w1vc2, .slice w1vA3 r1d3.length w1vc3]) (da := []) (dm := [Lf.I r0d8]) (db := [Lf.I r1d0, Lf.I r1d1, Lf.I r1d2, Lf.B r1d3]) F176.out rfl rfl).reads (Nat.le_trans HBr0.out (by unfold maxLen; omega))).mono ?_
    rintro e w185 ⟨rfl, hc⟩
    clear f0 f1 f2 f3 f4 f5 f6 f7 f8 f9 f10 f11 f12 f13 f14 f15 f16 f17
    have F186 := Lib.hid (F172.out.step hc)
    have F187 := Lib.hid (F173.out.step hc)
    have F188 := Lib.hid (F174.out.step hc)
    have F189 := Lib.hid (F175.out.step hc)
    have F190 := Lib.hid (F176.out.below hc)
    have F191 := Lib.hid (F177.out.step hc)
    have F192 := Lib.hid (F178.out.step hc)
    have F193 := Lib.hid (F179.out.below hc)
    have F194 := Lib.hid (F180.out.step hc)
    have F195 := Lib.hid (F181.out.step hc)
    have H196 := Lib.hid (bt H182.out hc)
    have Z197 : Hid (w171.heap.size ≤ w185.heap.size) := Lib.hid hc.size
    clear F172 F173 F174 F175 F176 F177 F178 F179 F180 F181 H182 hc
    have f0 : w185.cell? ⟨w64.heap.size + 1, 0, none⟩ = some (.slice g1vA0 r1d0.length g1vc0) := F195.out.cell 0 rfl
    have f1 : w185.cell? ⟨w64.heap.size + 1, 1, none⟩ = some (.slice g1vA1 r1d1.length g1vc1) := F195.out.cell 1 rfl
    have f2 : w185.cell? ⟨w64.heap.size + 1, 2, none⟩ = some (.slice g1vA2 r1d2.length g1vc2) := F195.out.cell 2 rfl
    have f3 : w185.cell? ⟨w64.heap.size + 1, 3, none⟩ = some (.slice g1vA3 r1d3.length g1vc3) := F195.out.cell 3 rfl
    have f4 : w185.cell? ⟨w64.heap.size + 1, 4, none⟩ = some (.int .i64 r1d4) := F195.out.cell 4 rfl
    have f5 : w185.cell? ⟨bw1, 0, none⟩ = some (.slice w1vA0 r1d0.length w1vc0) := F189.out.cell 0 rfl
    have f6 : w185.cell? ⟨bw1, 1, none⟩ = some (.slice w1vA1 r1d1.length w1vc1) := F189.out.cell 1 rfl
    have f7 : w185.cell? ⟨bw1, 2, none⟩ = some (.slice w1vA2 r1d2.length w1vc2) := F189.out.cell 2 rfl
    have f8 : w185.cell? ⟨bw1, 3, none⟩ = some (.slice w1vA3 r1d3.length w1vc3) := F189.out.cell 3 rfl
    have f9 : w185.cell? ⟨bw1, 4, none⟩ = some (.int .i64 r1d4) := F189.out.cell 4 rfl
    go_wp2_with fail
    refine (eqMemA g1vA0 g1vA1 g1vA2 g1vA3 g1vc0 g1vc1 g1vc2 g1vc3 w1vA0 w1vA1 w1vA2 w1vA3 w1vc0 w1vc1 w1vc2 w1vc3 r1d0 r1d1 r1d2 r1d3 r1d4 w185 (OwnA.seg (a := [.slice g0vA8 r0d8.length g0vc8]) (m := [.slice g1vA0 r1d0.length g1vc0, .slice g1vA1 r1d1.length g1vc1, .slice g1vA2 r1d2.length g1vc2, .slice g1vA3 r1d3.length g1vc3]) (b := []) (da := [Lf.I r0d8]) (dm := [Lf.I r1d0, Lf.I r1d1, Lf.I r1d2, Lf.B r1d3]) (db := []) F193.out rfl rfl).reads (OwnA.seg (a := [.slice w0vA8 r0d8.length w0vc8]) (m := [.slice w1vA0 r1d0.length w1vc0, .slice w1vA1 r1d1.length w1vc1, .slice w1vA2 r1d2.length w1vc2, .slice w1vA3 r1d3.length w1vc3]) (b := []) (da := [Lf.I r0d8]) (dm := [Lf.I r1d0, Lf.I r1d1, Lf.I r1d2, Lf.B r1d3]) (db := []) F190.out rfl rfl).reads (Nat.le_trans HBr1.out (by unfold maxLen; omega))).mono ?_
    rintro e w198 ⟨rfl, hc⟩
    clear f0 f1 f2 f3 f4 f5 f6 f7 f8 f9
    have F199 := Lib.hid (F186.out.step hc)
    have F200 := Lib.hid (F187.out.step hc)
    have F201 := Lib.hid (F188.out.step hc)
    have F202 := Lib.hid (F189.out.step hc)
    have F203 := Lib.hid (F190.out.below hc)
    have F204 := Lib.hid (F191.out.step hc)
    have F205 := Lib.hid (F192.out.step hc)
    have F206 := Lib.hid (F193.out.below hc)
    have F207 := Lib.hid (F194.out.step hc)
    have F208 := Lib.hid (F195.out.step hc)
    have H209 := Lib.hid (bt H196.out hc)
    have Z210 : Hid (w185.heap.size ≤ w198.heap.size) := Lib.hid hc.size
    clear F186 F187 F188 F189 F190 F191 F192 F193 F194 F195 H196 hc
    have f0 : w198.cell? ⟨w64.heap.size, 0, none⟩ = some (.int .i64 r0d0) := F207.out.cell 0 rfl
    have f1 : w198.cell? ⟨w64.heap.size, 1, none⟩ = some (.int .i64 r0d1) := F207.out.cell 1 rfl
    have f2 : w198.cell? ⟨w64.heap.size, 2, none⟩ = some (.int .i64 r0d2) := F207.out.cell 2 rfl
    have f3 : w198.cell? ⟨w64.heap.size, 3, none⟩ = some (.int .i64 r0d3) := F207.out.cell 3 rfl
    have f4 : w198.cell? ⟨w64.heap.size, 4, none⟩ = some (.bool r0d4) := F207.out.cell 4 rfl
    have f5 : w198.cell? ⟨w64.heap.size, 5, none⟩ = some (.bool r0d5) := F207.out.cell 5 rfl
    have f6 : w198.cell? ⟨w64.heap.size, 6, none⟩ = some (.bool r0d6) := F207.out.cell 6 rfl
    have f7 : w198.cell? ⟨w64.heap.size, 7, none⟩ = some (.bool r0d7) := F207.out.cell 7 rfl
    have f8 : w198.cell? ⟨w64.heap.size, 8, none⟩ = some (.slice g0vA8 r0d8.length g0vc8) := F207.out.cell 8 rfl
    go_wp2_with fail
    have HM := Lib.hid (markCpuA g0vA8 g0vc8 r0d0 r0d1 r0d2 r0d3 r0d4 r0d5 r0d6 r0d7 r0d8 (1) W51.heap.size w64.heap.size w198 (OwnA.seg (a := []) (m := [.slice g0vA8 r0d8.length g0vc8]) (b := [.slice g1vA0 r1d0.length g1vc0, .slice g1vA1 r1d1.length g1vc1, .slice g1vA2 r1d2.length g1vc2, .slice g1vA3 r1d3.length g1vc3]) (da := []) (dm := [Lf.I r0d8]) (db := [Lf.I r1d0, Lf.I r1d1, Lf.I r1d2, Lf.B r1d3]) F206.out rfl rfl) (by have := Z2.out; have := Z6.out; have := Z11.out; have := Z16.out; have := Z21.out; have := Zbw0.out; have := Zbw1.out; have := Z29.out; have := Z31.out; have := Z40.out; have := Z50.out; have := Z52.out; have := Z63.out; have := Z75.out; have := Z77.out; have := Z91.out; have := Z106.out; have := Z121.out; have := Z138.out; have := Z155.out; have := Z169.out; have := Z183.out; have := Z197.out; have := Z210.out; omega) (by omega) (BndA.of_len HBr0.out) (by have := HBr0.out; have := HBr1.out; omega))
    refine HM.out.mono ?_
    rintro e w211 ⟨rfl, M1, U1⟩
    clear HM
    clear f0 f1 f2 f3 f4 f5 f6 f7 f8
    have U2 := U1.btw (OwnA.seg (a := []) (m := [.slice g0vA8 r0d8.length g0vc8]) (b := [.slice g1vA0 r1d0.length g1vc0, .slice g1vA1 r1d1.length g1vc1, .slice g1vA2 r1d2.length g1vc2, .slice g1vA3 r1d3.length g1vc3]) (da := []) (dm := [Lf.I r0d8]) (db := [Lf.I r1d0, Lf.I r1d1, Lf.I r1d2, Lf.B r1d3]) F206.out rfl rfl)
    have N212 := Lib.hid (OwnA.reseg (a := []) (m := [.slice g0vA8 r0d8.length g0vc8]) (b := [.slice g1vA0 r1d0.length g1vc0, .slice g1vA1 r1d1.length g1vc1, .slice g1vA2 r1d2.length g1vc2, .slice g1vA3 r1d3.length g1vc3]) (da := []) (dm := [Lf.I r0d8]) (db := [Lf.I r1d0, Lf.I r1d1, Lf.I r1d2, Lf.B r1d3]) (dm' := marksA (1) [Lf.I r0d8]) F206.out rfl rfl M1.out U1)
    have F213 := Lib.hid (F199.out.btw U2 (by have := Z2.out; have := Z6.out; have := Z11.out; have := Z16.out; have := Z21.out; have := Zbw0.out; have := Zbw1.out; have := Z29.out; have := Z31.out; have := Z40.out; have := Z50.out; have := Z52.out; have := Z63.out; have := Z75.out; have := Z77.out; have := Z91.out; have := Z106.out; have := Z121.out; have := Z138.out; have := Z155.out; have := Z169.out; have := Z183.out; have := Z197.out; have := Z210.out; omega))
    have F214 := Lib.hid (F200.out.btw U2 (by have := Z2.out; have := Z6.out; have := Z11.out; have := Z16.out; have := Z21.out; have := Zbw0.out; have := Zbw1.out; have := Z29.out; have := Z31.out; have := Z40.out; have := Z50.out; have := Z52.out; have := Z63.out; have := Z75.out; have := Z77.out; have := Z91.out; have := Z106.out; have := Z121.out; have := Z138.out; have := Z155.out; have := Z169.out; have := Z183.out; have := Z197.out; have := Z210.out; omega))
    have F215 := Lib.hid (F201.out.btw U2 (by have := Z2.out; have := Z6.out; have := Z11.out; have := Z16.out; have := Z21.out; have := Zbw0.out; have := Zbw1.out; have := Z29.out; have := Z31.out; have := Z40.out; have := Z50.out; have := Z52.out; have := Z63.out; have := Z75.out; have := Z77.out; have := Z91.out; have := Z106.out; have := Z121.out; have := Z138.out; have := Z155.out; have := Z169.out; have := Z183.out; have := Z197.out; have := Z210.out; omega))
    have F216 := Lib.hid (F202.out.btw U2 (by have := Z2.out; have := Z6.out; have := Z11.out; have := Z16.out; have := Z21.out; have := Zbw0.out; have := Zbw1.out; have := Z29.out; have := Z31.out; have := Z40.out; have := Z50.out; have := Z52.out; have := Z63.out; have := Z75.out; have := Z77.out; have := Z91.out; have := Z106.out; have := Z121.out; have := Z138.out; have := Z155.out; have := Z169.out; have := Z183.out; have := Z197.out; have := Z210.out; omega))
    have F217 := Lib.hid (F203.out.btw U2 (by have := Z2.out; have := Z6.out; have := Z11.out; have := Z16.out; have := Z21.out; have := Zbw0.out; have := Zbw1.out; have := Z29.out; have := Z31.out; have := Z40.out; have := Z50.out; have := Z52.out; have := Z63.out; have := Z75.out; have := Z77.out; have := Z91.out; have := Z106.out; have := Z121.out; have := Z138.out; have := Z155.out; have := Z169.out; have := Z183.out; have := Z197.out; have := Z210.out; omega))
    have F218 := Lib.hid (F204.out.btw U2 (by have := Z2.out; have := Z6.out; have := Z11.out; have := Z16.out; have := Z21.out; have := Zbw0.out; have := Zbw1.out; have := Z29.out; have := Z31.out; have := Z40.out; have := Z50.out; have := Z52.out; have := Z63.out; have := Z75.out; have := Z77.out; have := Z91.out; have := Z106.out; have := Z121.out; have := Z138.out; have := Z155.out; have := Z169.out; have := Z183.out; have := Z197.out; have := Z210.out; omega))
    have F219 := Lib.hid (F205.out.btw U2 (by have := Z2.out; have := Z6.out; have := Z11.out; have := Z16.out; have := Z21.out; have := Zbw0.out; have := Zbw1.out; have := Z29.out; have := Z31.out; have := Z40.out; have := Z50.out; have := Z52.out; have := Z63.out; have := Z75.out; have := Z77.out; have := Z91.out; have := Z106.out; have := Z121.out; have := Z138.out; have := Z155.out; have := Z169.out; have := Z183.out; have := Z197.out; have := Z210.out; omega))
    have F220 := Lib.hid (F207.out.btw U2 (by have := Z2.out; have := Z6.out; have := Z11.out; have := Z16.out; have := Z21.out; have := Zbw0.out; have := Zbw1.out; have := Z29.out; have := Z31.out; have := Z40.out; have := Z50.out; have := Z52.out; have := Z63.out; have := Z75.out; have := Z77.out; have := Z91.out; have := Z106.out; have := Z121.out; have := Z138.out; have := Z155.out; have := Z169.out; have := Z183.out; have := Z197.out; have := Z210.out; omega))
    have F221 := Lib.hid (F208.out.btw U2 (by have := Z2.out; have := Z6.out; have := Z11.out; have := Z16.out; have := Z21.out; have := Zbw0.out; have := Zbw1.out; have := Z29.out; have := Z31.out; have := Z40.out; have := Z50.out; have := Z52.out; have := Z63.out; have := Z75.out; have := Z77.out; have := Z91.out; have := Z106.out; have := Z121.out; have := Z138.out; have := Z155.out; have := Z169.out; have := Z183.out; have := Z197.out; have := Z210.out; omega))
    have H222 := Lib.hid (H209.out.trans ((U2.below (by have := Z2.out; have := Z6.out; have := Z11.out; have := Z16.out; have := Z21.out; have := Zbw0.out; have := Zbw1.out; have := Z29.out; have := Z31.out; have := Z40.out; have := Z50.out; have := Z52.out; have := Z63.out; have := Z75.out; have := Z77.out; have := Z91.out; have := Z106.out; have := Z121.out; have := Z138.out; have := Z155.out; have := Z169.out; have := Z183.out; have := Z197.out; have := Z210.out; omega)).mono (by have := Z2.out; have := Z6.out; have := Z11.out; have := Z16.out; have := Z21.out; have := Zbw0.out; have := Zbw1.out; have := Z29.out; have := Z31.out; have := Z40.out; have := Z50.out; have := Z52.out; have := Z63.out; have := Z75.out; have := Z77.out; have := Z91.out; have := Z106.out; have := Z121.out; have := Z138.out; have := Z155.out; have := Z169.out; have := Z183.out; have := Z197.out; have := Z210.out; omega)))
    have Z223 : Hid (w198.heap.size ≤ w211.heap.size) := Lib.hid U2.size
    clear F199 F200 F201 F202 F203 F204 F205 F207 F208 H209
    clear U1 U2 M1 F206
    have f0 : w211.cell? ⟨w64.heap.size + 1, 0, none⟩ = some (.slice g1vA0 r1d0.length g1vc0) := F221.out.cell 0 rfl
    have f1 : w211.cell? ⟨w64.heap.size + 1, 1, none⟩ = some (.slice g1vA1 r1d1.length g1vc1) := F221.out.cell 1 rfl
    have f2 : w211.cell? ⟨w64.heap.size + 1, 2, none⟩ = some (.slice g1vA2 r1d2.length g1vc2) := F221.out.cell 2 rfl
    have f3 : w211.cell? ⟨w64.heap.size + 1, 3, none⟩ = some (.slice g1vA3 r1d3.length g1vc3) := F221.out.cell 3 rfl
    have f4 : w211.cell? ⟨w64.heap.size + 1, 4, none⟩ = some (.int .i64 r1d4) := F221.out.cell 4 rfl
    go_wp2_with fail
    have HM := Lib.hid (markMemA g1vA0 g1vA1 g1vA2 g1vA3 g1vc0 g1vc1 g1vc2 g1vc3 r1d0 r1d1 r1d2 r1d3 r1d4 (1 + lenA [Lf.I r0d8]) W51.heap.size w64.heap.size w211 (OwnA.seg (a := [.slice g0vA8 r0d8.length g0vc8]) (m := [.slice g1vA0 r1d0.length g1vc0, .slice g1vA1 r1d1.length g1vc1, .slice g1vA2 r1d2.length g1vc2, .slice g1vA3 r1d3.length g1vc3]) (b := []) (da := [(Lf.I r0d8).marks (1)]) (dm := [Lf.I r1d0, Lf.I r1d1, Lf.I r1d2, Lf.B r1d3]) (db := []) N212.out rfl rfl) (by have := Z2.out; have := Z6.out; have := Z11.out; have := Z16.out; have := Z21.out; have := Zbw0.out; have := Zbw1.out; have := Z29.out; have := Z31.out; have := Z40.out; have := Z50.out; have := Z52.out; have := Z63.out; have := Z75.out; have := Z77.out; have := Z91.out; have := Z106.out; have := Z121.out; have := Z138.out; have := Z155.out; have := Z169.out; have := Z183.out; have := Z197.out; have := Z210.out; have := Z223.out; omega) (by omega) (BndA.of_len HBr1.out) (by have := HBr0.out; have := HBr1.out; omega))
    refine HM.out.mono ?_
    rintro e w224 ⟨rfl, M1, U1⟩
    clear HM
    clear f0 f1 f2 f3 f4
    have U2 := U1.btw (OwnA.seg (a := [.slice g0vA8 r0d8.length g0vc8]) (m := [.slice g1vA0 r1d0.length g1vc0, .slice g1vA1 r1d1.length g1vc1, .slice g1vA2 r1d2.length g1vc2, .slice g1vA3 r1d3.length g1vc3]) (b := []) (da := [(Lf.I r0d8).marks (1)]) (dm := [Lf.I r1d0, Lf.I r1d1, Lf.I r1d2, Lf.B r1d3]) (db := []) N212.out rfl rfl)
    have N225 := Lib.hid (OwnA.reseg (a := [.slice g0vA8 r0d8.length g0vc8]) (m := [.slice g1vA0 r1d0.length g1vc0, .slice g1vA1 r1d1.length g1vc1, .slice g1vA2 r1d2.length g1vc2, .slice g1vA3 r1d3.length g1vc3]) (b := []) (da := [(Lf.I r0d8).marks (1)]) (dm := [Lf.I r1d0, Lf.I r1d1, Lf.I r1d2, Lf.B r1d3]) (db := []) (dm' := marksA (1 + lenA [Lf.I r0d8]) [Lf.I r1d0, Lf.I r1d1, Lf.I r1d2, Lf.B r1d3]) N212.out rfl rfl M1.out U1)
    have F226 := Lib.hid (F213.out.btw U2 (by have := Z2.out; have := Z6.out; have := Z11.out; have := Z16.out; have := Z21.out; have := Zbw0.out; have := Zbw1.out; have := Z29.out; have := Z31.out; have := Z40.out; have := Z50.out; have := Z52.out; have := Z63.out; have := Z75.out; have := Z77.out; have := Z91.out; have := Z106.out; have := Z121.out; have := Z138.out; have := Z155.out; have := Z169.out; have := Z183.out; have := Z197.out; have := Z210.out; have := Z223.out; omega))
    have F227 := Lib.hid (F214.out.btw U2 (by have := Z2.out; have := Z6.out; have := Z11.out; have := Z16.out; have := Z21.out; have := Zbw0.out; have := Zbw1.out; have := Z29.out; have := Z31.out; have := Z40.out; have := Z50.out; have := Z52.out; have := Z63.out; have := Z75.out; have := Z77.out; have := Z91.out; have := Z106.out; have := Z121.out; have := Z138.out; have := Z155.out; have := Z169.out; have := Z183.out; have := Z197.out; have := Z210.out; have := Z223.out; omega))
    have F228 := Lib.hid (F215.out.btw U2 (by have := Z2.out; have := Z6.out; have := Z11.out; have := Z16.out; have := Z21.out; have := Zbw0.out; have := Zbw1.out; have := Z29.out; have := Z31.out; have := Z40.out; have := Z50.out; have := Z52.out; have := Z63.out; have := Z75.out; have := Z77.out; have := Z91.out; have := Z106.out; have := Z121.out; have := Z138.out; have := Z155.out; have := Z169.out; have := Z183.out; have := Z197.out; have := Z210.out; have := Z223.out; omega))
    have F229 := Lib.hid (F216.out.btw U2 (by have := Z2.out; have := Z6.out; have := Z11.out; have := Z16.out; have := Z21.out; have := Zbw0.out; have := Zbw1.out; have := Z29.out; have := Z31.out; have := Z40.out; have := Z50.out; have := Z52.out; have := Z63.out; have := Z75.out; have := Z77.out; have := Z91.out; have := Z106.out; have := Z121.out; have := Z138.out; have := Z155.out; have := Z169.out; have := Z183.out; have := Z197.out; have := Z210.out; have := Z223.out; omega))
    have F230 := Lib.hid (F217.out.btw U2 (by have := Z2.out; have := Z6.out; have := Z11.out; have := Z16.out; have := Z21.out; have := Zbw0.out; have := Zbw1.out; have := Z29.out; have := Z31.out; have := Z40.out; have := Z50.out; have := Z52.out; have := Z63.out; have := Z75.out; have := Z77.out; have := Z91.out; have := Z106.out; have := Z121.out; have := Z138.out; have := Z155.out; have := Z169.out; have := Z183.out; have := Z197.out; have := Z210.out; have := Z223.out; omega))
    have F231 := Lib.hid (F218.out.btw U2 (by have := Z2.out; have := Z6.out; have := Z11.out; have := Z16.out; have := Z21.out; have := Zbw0.out; have := Zbw1.out; have := Z29.out; have := Z31.out; have := Z40.out; have := Z50.out; have := Z52.out; have := Z63.out; have := Z75.out; have := Z77.out; have := Z91.out; have := Z106.out; have := Z121.out; have := Z138.out; have := Z155.out; have := Z169.out; have := Z183.out; have := Z197.out; have := Z210.out; have := Z223.out; omega))
    have F232 := Lib.hid (F219.out.btw U2 (by have := Z2.out; have := Z6.out; have := Z11.out; have := Z16.out; have := Z21.out; have := Zbw0.out; have := Zbw1.out; have := Z29.out; have := Z31.out; have := Z40.out; have := Z50.out; have := Z52.out; have := Z63.out; have := Z75.out; have := Z77.out; have := Z91.out; have := Z106.out; have := Z121.out; have := Z138.out; have := Z155.out; have := Z169.out; have := Z183.out; have := Z197.out; have := Z210.out; have := Z223.out; omega))
    have F233 := Lib.hid (F220.out.btw U2 (by have := Z2.out; have := Z6.out; have := Z11.out; have := Z16.out; have := Z21.out; have := Zbw0.out; have := Zbw1.out; have := Z29.out; have := Z31.out; have := Z40.out; have := Z50.out; have := Z52.out; have := Z63.out; have := Z75.out; have := Z77.out; have := Z91.out; have := Z106.out; have := Z121.out; have := Z138.out; have := Z155.out; have := Z169.out; have := Z183.out; have := Z197.out; have := Z210.out; have := Z223.out; omega))
    have F234 := Lib.hid (F221.out.btw U2 (by have := Z2.out; have := Z6.out; have := Z11.out; have := Z16.out; have := Z21.out; have := Zbw0.out; have := Zbw1.out; have := Z29.out; have := Z31.out; have := Z40.out; have := Z50.out; have := Z52.out; have := Z63.out; have := Z75.out; have := Z77.out; have := Z91.out; have := Z106.out; have := Z121.out; have := Z138.out; have := Z155.out; have := Z169.out; have := Z183.out; have := Z197.out; have := Z210.out; have := Z223.out; omega))
    have H235 := Lib.hid (H222.out.trans ((U2.below (by have := Z2.out; have := Z6.out; have := Z11.out; have := Z16.out; have := Z21.out; have := Zbw0.out; have := Zbw1.out; have := Z29.out; have := Z31.out; have := Z40.out; have := Z50.out; have := Z52.out; have := Z63.out; have := Z75.out; have := Z77.out; have := Z91.out; have := Z106.out; have := Z121.out; have := Z138.out; have := Z155.out; have := Z169.out; have := Z183.out; have := Z197.out; have := Z210.out; have := Z223.out; omega)).mono (by have := Z2.out; have := Z6.out; have := Z11.out; have := Z16.out; have := Z21.out; have := Zbw0.out; have := Zbw1.out; have := Z29.out; have := Z31.out; have := Z40.out; have := Z50.out; have := Z52.out; have := Z63.out; have := Z75.out; have := Z77.out; have := Z91.out; have := Z106.out; have := Z121.out; have := Z138.out; have := Z155.out; have := Z169.out; have := Z183.out; have := Z197.out; have := Z210.out; have := Z223.out; omega)))
    have Z236 : Hid (w211.heap.size ≤ w224.heap.size) := Lib.hid U2.size
    clear F213 F214 F215 F216 F217 F218 F219 F220 F221 H222
    clear U1 U2 M1 N212
    have hm0 : (((1 + lenA [Lf.I r0d8] + lenA [Lf.I r1d0, Lf.I r1d1, Lf.I r1d2, Lf.B r1d3] : Nat) : Int) != ((1 + lenA [Lf.I r0d8] + lenA [Lf.I r1d0, Lf.I r1d1, Lf.I r1d2, Lf.B r1d3] : Nat) : Int)) = false := by simp
    have f0 : w224.cell? ⟨w64.heap.size, 0, none⟩ = some (.int .i64 r0d0) := F233.out.cell 0 rfl
    have f1 : w224.cell? ⟨w64.heap.size, 1, none⟩ = some (.int .i64 r0d1) := F233.out.cell 1 rfl
    have f2 : w224.cell? ⟨w64.heap.size, 2, none⟩ = some (.int .i64 r0d2) := F233.out.cell 2 rfl
    have f3 : w224.cell? ⟨w64.heap.size, 3, none⟩ = some (.int .i64 r0d3) := F233.out.cell 3 rfl
    have f4 : w224.cell? ⟨w64.heap.size, 4, none⟩ = some (.bool r0d4) := F233.out.cell 4 rfl
    have f5 : w224.cell? ⟨w64.heap.size, 5, none⟩ = some (.bool r0d5) := F233.out.cell 5 rfl
    have f6 : w224.cell? ⟨w64.heap.size, 6, none⟩ = some (.bool r0d6) := F233.out.cell 6 rfl
    have f7 : w224.cell? ⟨w64.heap.size, 7, none⟩ = some (.bool r0d7) := F233.out.cell 7 rfl
    have f8 : w224.cell? ⟨w64.heap.size, 8, none⟩ = some (.slice g0vA8 r0d8.length g0vc8) := F233.out.cell 8 rfl
    go_wp2_with fail
    refine (heldCpuA g0vA8 g0vc8 r0d0 r0d1 r0d2 r0d3 r0d4 r0d5 r0d6 r0d7 r0d8 (1) w224 (RepA.seg (a := []) (m := [.slice g0vA8 r0d8.length g0vc8]) (b := [.slice g1vA0 r1d0.length g1vc0, .slice g1vA1 r1d1.length g1vc1, .slice g1vA2 r1d2.length g1vc2, .slice g1vA3 r1d3.length g1vc3]) (da := []) (dm := marksA (1) [Lf.I r0d8]) (db := [(Lf.I r1d0).marks (1 + lenA [Lf.I r0d8]), (Lf.I r1d1).marks (1 + lenA [Lf.I r0d8] + (Lf.I r1d0).len), (Lf.I r1d2).marks (1 + lenA [Lf.I r0d8] + (Lf.I r1d0).len + (Lf.I r1d1).len), (Lf.B r1d3).marks (1 + lenA [Lf.I r0d8] + (Lf.I r1d0).len + (Lf.I r1d1).len + (Lf.I r1d2).len)]) N225.out.reads rfl rfl) (by omega) (BndA.of_len HBr0.out) (by have := HBr0.out; have := HBr1.out; omega)).mono ?_
    rintro e w237 ⟨rfl, hc⟩
    clear f0 f1 f2 f3 f4 f5 f6 f7 f8
    have F238 := Lib.hid (F226.out.step hc)
    have F239 := Lib.hid (F227.out.step hc)
    have F240 := Lib.hid (F228.out.step hc)
    have F241 := Lib.hid (F229.out.step hc)
    have F242 := Lib.hid (F230.out.below hc)
    have F243 := Lib.hid (F231.out.step hc)
    have F244 := Lib.hid (F232.out.step hc)
    have F245 := Lib.hid (N225.out.below hc)
    have F246 := Lib.hid (F233.out.step hc)
    have F247 := Lib.hid (F234.out.step hc)
    have H248 := Lib.hid (bt H235.out hc)
    have Z249 : Hid (w224.heap.size ≤ w237.heap.size) := Lib.hid hc.size
    clear F226 F227 F228 F229 F230 F231 F232 N225 F233 F234 H235 hc
    have hqw237 : ¬ ((1 + lenA [Lf.I r0d8] : Nat) : Int) < 0 := by omega
    have f0 : w237.cell? ⟨w64.heap.size + 1, 0, none⟩ = some (.slice g1vA0 r1d0.length g1vc0) := F247.out.cell 0 rfl
    have f1 : w237.cell? ⟨w64.heap.size + 1, 1, none⟩ = some (.slice g1vA1 r1d1.length g1vc1) := F247.out.cell 1 rfl
    have f2 : w237.cell? ⟨w64.heap.size + 1, 2, none⟩ = some (.slice g1vA2 r1d2.length g1vc2) := F247.out.cell 2 rfl
    have f3 : w237.cell? ⟨w64.heap.size + 1, 3, none⟩ = some (.slice g1vA3 r1d3.length g1vc3) := F247.out.cell 3 rfl
    have f4 : w237.cell? ⟨w64.heap.size + 1, 4, none⟩ = some (.int .i64 r1d4) := F247.out.cell 4 rfl
    go_wp2_with fail
    refine (heldMemA g1vA0 g1vA1 g1vA2 g1vA3 g1vc0 g1vc1 g1vc2 g1vc3 r1d0 r1d1 r1d2 r1d3 r1d4 (1 + lenA [Lf.I r0d8]) w237 (RepA.seg (a := [.slice g0vA8 r0d8.length g0vc8]) (m := [.slice g1vA0 r1d0.length g1vc0, .slice g1vA1 r1d1.length g1vc1, .slice g1vA2 r1d2.length g1vc2, .slice g1vA3 r1d3.length g1vc3]) (b := []) (da := [(Lf.I r0d8).marks (1)]) (dm := marksA (1 + lenA [Lf.I r0d8]) [Lf.I r1d0, Lf.I r1d1, Lf.I r1d2, Lf.B r1d3]) (db := []) F245.out.reads rfl rfl) (by omega) (BndA.of_len HBr1.out) (by have := HBr0.out; have := HBr1.out; omega)).mono ?_
    rintro e w250 ⟨rfl, hc⟩
    clear f0 f1 f2 f3 f4
    have F251 := Lib.hid (F238.out.step hc)
    have F252 := Lib.hid (F239.out.step hc)
    have F253 := Lib.hid (F240.out.step hc)
    have F254 := Lib.hid (F241.out.step hc)
    have F255 := Lib.hid (F242.out.below hc)
    have F256 := Lib.hid (F243.out.step hc)
    have F257 := Lib.hid (F244.out.step hc)
    have F258 := Lib.hid (F245.out.below hc)
    have F259 := Lib.hid (F246.out.step hc)
    have F260 := Lib.hid (F247.out.step hc)
    have H261 := Lib.hid (bt H248.out hc)
    have Z262 : Hid (w237.heap.size ≤ w250.heap.size) := Lib.hid hc.size
    clear F238 F239 F240 F241 F242 F243 F244 F245 F246 F247 H248 hc
    have hqw250 : ¬ ((1 + lenA [Lf.I r0d8] + lenA [Lf.I r1d0, Lf.I r1d1, Lf.I r1d2, Lf.B r1d3] : Nat) : Int) < 0 := by omega
    go_wp2
    refine wp_region_facts (by kernel_rfl) [[150], [151], [152], [153], [154], [149, 154], [155, 154], [156, 154], [157, 154], [158, 154], [159, 154], [21], [22], [21, 154], [22, 154], [23, 154], [24, 154], [25, 154]] [[], [0], [], [0, 1, 2], [0, 1, 2, 3], [0, 1, 2, 3, 4], [0, 1, 2, 3, 4, 5], [0, 1, 2, 3, 4, 5], [0, 1, 2, 3, 4, 5], [0, 1, 2, 3, 4, 5], [0, 1, 2, 3, 4, 5], [], [], [0, 1, 2, 3, 4, 5, 6, 11, 12], [0, 1, 2, 3, 4, 5, 6, 7, 11, 12, 13], [0, 1, 2, 3, 4, 5, 6, 7, 8, 11, 12, 13, 14], [0, 1, 2, 3, 4, 5, 6, 7, 8, 9, 11, 12, 13, 14, 15], [0, 1, 2, 3, 4, 5, 6, 7, 8, 9, 10, 11, 12, 13, 14, 15, 16]] [0, 1, 2, 3, 4, 5, 6, 7, 8, 9, 10, 11, 12, 13, 14, 15, 16, 17, 18, 19, 20, 26, 27, 28, 29, 30, 31, 32, 33, 34, 35] (by kernel_rfl) (fun W => Below w250.heap.size w250 W) (rgh w250.heap.size a0vA8 a0vc8 a0d0 a0d1 a0d2 a0d3 a0d4 a0d5 a0d6 a0d7 a0d8 a1vA0 a1vA1 a1vA2 a1vA3 a1vc0 a1vc1 a1vc2 a1vc3 a1d0 a1d1 a1d2 a1d3 a1d4 r0d0 r0d1 r0d2 r0d3 r0d4 r0d5 r0d6 r0d7 r0d8 r1d0 r1d1 r1d2 r1d3 r1d4 r2d0 r3d0 r4d0) (Below.refl _ _).drew ?_ ?_
    · refine ⟨?_, ?_, ?_, ?_, ?_, ?_, ?_, ?_, ?_, ?_, ?_, ?_, ?_, ?_, ?_, ?_, ?_, ?_, trivial⟩
      · intro T W hT hs hC hF K hK
        refine wp_load_row 44 (.tmp 2) rfl (w.heap.size) (hs 2 (by decide)) 44 #[.int .i64 a0d0, .int .i64 a0d1, .int .i64 a0d2, .int .i64 a0d3, .bool a0d4, .bool a0d5, .bool a0d6, .bool a0d7, .slice a0vA8 a0d8.length a0vc8] (0, 0) _ (F251.out.below hC F251.out.lt) Tryz.underlying44 rfl (by kernel_rfl) ?_
        exact hK.out _ W hC (fun _ _ _ h => h) (mask_put [150] 150 (by decide) _ _ _ (by rw [hT]; show 150 < 198; decide))
      · intro T W hT hs hC hF K hK
        have e : T.getD 150 undef = .agg #[.int .i64 a0d0, .int .i64 a0d1, .int .i64 a0d2, .int .i64 a0d3, .bool a0d4, .bool a0d5, .bool a0d6, .bool a0d7, .slice a0vA8 a0d8.length a0vc8] := hF 0 (by decide)
        have hb := bt H261.out hC
        refine wp_callfn Tryz.func20 (by kernel_rfl) (by kernel_rfl) [.agg #[.int .i64 a0d0, .int .i64 a0d1, .int .i64 a0d2, .int .i64 a0d3, .bool a0d4, .bool a0d5, .bool a0d6, .bool a0d7, .slice a0vA8 a0d8.length a0vc8]] rfl (by show [T.getD 150 undef] = _; rw [e]) (HTo0.out _ hb z0) ?_
        rintro e2 w' ⟨u0vA8, u0vc8, rfl, N, C, hc⟩
        exact ⟨_, rfl, hK.out _ w' (hC.trans (hc.mono hC.size)) (fun j t _ h => rgh_below hc j t h) ⟨u0vA8, u0vc8, (mask_put [151] 151 (by decide) _ _ _ (by rw [hT]; show 151 < 198; decide)), N.out.wide hC.size (Nat.le_refl _), C.out⟩⟩
      · intro T W hT hs hC hF K hK
        refine wp_load_row 47 (.tmp 3) rfl (w.heap.size + 1) (hs 3 (by decide)) 47 #[.slice a1vA0 a1d0.length a1vc0, .slice a1vA1 a1d1.length a1vc1, .slice a1vA2 a1d2.length a1vc2, .slice a1vA3 a1d3.length a1vc3, .int .i64 a1d4] (0, 0) _ (F252.out.below hC F252.out.lt) Tryz.underlying47 rfl (by kernel_rfl) ?_
        exact hK.out _ W hC (fun _ _ _ h => h) (mask_put [152] 152 (by decide) _ _ _ (by rw [hT]; show 152 < 198; decide))
      · intro T W hT hs hC hF K hK
        have e : T.getD 152 undef = .agg #[.slice a1vA0 a1d0.length a1vc0, .slice a1vA1 a1d1.length a1vc1, .slice a1vA2 a1d2.length a1vc2, .slice a1vA3 a1d3.length a1vc3, .int .i64 a1d4] := hF 2 (by decide)
        have hb := bt H261.out hC
        refine wp_callfn Tryz.func21 (by kernel_rfl) (by kernel_rfl) [.agg #[.slice a1vA0 a1d0.length a1vc0, .slice a1vA1 a1d1.length a1vc1, .slice a1vA2 a1d2.length a1vc2, .slice a1vA3 a1d3.length a1vc3, .int .i64 a1d4]] rfl (by show [T.getD 152 undef] = _; rw [e]) (HTo1.out _ hb z1) ?_
        rintro e2 w' ⟨u1vA0, u1vA1, u1vA2, u1vA3, u1vc0, u1vc1, u1vc2, u1vc3, rfl, N, C, hc⟩
        exact ⟨_, rfl, hK.out _ w' (hC.trans (hc.mono hC.size)) (fun j t _ h => rgh_below hc j t h) ⟨u1vA0, u1vA1, u1vA2, u1vA3, u1vc0, u1vc1, u1vc2, u1vc3, (mask_put [153] 153 (by decide) _ _ _ (by rw [hT]; show 153 < 198; decide)), N.out.wide hC.size (Nat.le_refl _), C.out⟩⟩
      · intro T W hT hs hC hF K hK
        obtain ⟨u0vA8, u0vc8, e0, O0, C0⟩ := hF 1 (by decide)
        have e0 : T.getD 151 undef = .agg #[.int .i64 a0d0, .int .i64 a0d1, .int .i64 a0d2, .int .i64 a0d3, .bool a0d4, .bool a0d5, .bool a0d6, .bool a0d7, .slice u0vA8 a0d8.length u0vc8] := e0
        obtain ⟨u1vA0, u1vA1, u1vA2, u1vA3, u1vc0, u1vc1, u1vc2, u1vc3, e1, O1, C1⟩ := hF 3 (by decide)
        have e1 : T.getD 153 undef = .agg #[.slice u1vA0 a1d0.length u1vc0, .slice u1vA1 a1d1.length u1vc1, .slice u1vA2 a1d2.length u1vc2, .slice u1vA3 a1d3.length u1vc3, .int .i64 a1d4] := e1
        refine wp_callfn Tryz.func8 (by kernel_rfl) (by kernel_rfl) [.agg #[.int .i64 a0d0, .int .i64 a0d1, .int .i64 a0d2, .int .i64 a0d3, .bool a0d4, .bool a0d5, .bool a0d6, .bool a0d7, .slice u0vA8 a0d8.length u0vc8], .agg #[.slice u1vA0 a1d0.length u1vc0, .slice u1vA1 a1d1.length u1vc1, .slice u1vA2 a1d2.length u1vc2, .slice u1vA3 a1d3.length u1vc3, .int .i64 a1d4]] rfl (by show [T.getD 151 undef, T.getD 153 undef] = _; rw [e0, e1]) (HImpl.out _ u0vA8 u0vc8 u1vA0 u1vA1 u1vA2 u1vA3 u1vc0 u1vc1 u1vc2 u1vc3 O0.reads C0 z0 O1.reads C1 z1 (HT.out.below (bt H261.out hC))) ?_
        rintro e' w' ⟨h0vA8, h1vA0, h1vA1, h1vA2, h1vA3, h0vc8, h1vc0, h1vc1, h1vc2, h1vc3, rfl, N, hc⟩
        exact ⟨_, rfl, hK.out _ w' (hC.trans (hc.mono hC.size)) (fun j t _ h => rgh_below hc j t h) ⟨h0vA8, h1vA0, h1vA1, h1vA2, h1vA3, h0vc8, h1vc0, h1vc1, h1vc2, h1vc3, (mask_put [154] 154 (by decide) _ _ _ (by rw [hT]; show 154 < 198; decide)), N.out.wide hC.size (Nat.le_refl _)⟩⟩
      · intro T W hT hs hC hF K hK
        obtain ⟨h0vA8, h1vA0, h1vA1, h1vA2, h1vA3, h0vc8, h1vc0, h1vc1, h1vc2, h1vc3, e, O⟩ := hF 4 (by decide)
        have e : T.getD 154 undef = .tuple #[.agg #[.int .i64 r0d0, .int .i64 r0d1, .int .i64 r0d2, .int .i64 r0d3, .bool r0d4, .bool r0d5, .bool r0d6, .bool r0d7, .slice h0vA8 r0d8.length h0vc8], .agg #[.slice h1vA0 r1d0.length h1vc0, .slice h1vA1 r1d1.length h1vc1, .slice h1vA2 r1d2.length h1vc2, .slice h1vA3 r1d3.length h1vc3, .int .i64 r1d4], .int .i64 r2d0, .int .i64 r3d0, .int .i64 r4d0] := e
        refine wp_pure (.tmp 154) (.inr rfl) _ e (hK.out _ W hC (fun _ _ _ h => h) ?_)
        exact (mask_put [149, 154] 149 (by decide) _ _ _ (by rw [hT]; show 149 < 198; decide)).trans ((mask_put_ne [149, 154] 149 154 (by decide) _ _ _ (by decide)).trans e).symm
      · intro T W hT hs hC hF K hK
        obtain ⟨h0vA8, h1vA0, h1vA1, h1vA2, h1vA3, h0vc8, h1vc0, h1vc1, h1vc2, h1vc3, e, O⟩ := hF 4 (by decide)
        have e : T.getD 154 undef = .tuple #[.agg #[.int .i64 r0d0, .int .i64 r0d1, .int .i64 r0d2, .int .i64 r0d3, .bool r0d4, .bool r0d5, .bool r0d6, .bool r0d7, .slice h0vA8 r0d8.length h0vc8], .agg #[.slice h1vA0 r1d0.length h1vc0, .slice h1vA1 r1d1.length h1vc1, .slice h1vA2 r1d2.length h1vc2, .slice h1vA3 r1d3.length h1vc3, .int .i64 r1d4], .int .i64 r2d0, .int .i64 r3d0, .int .i64 r4d0] := e
        have em : T.getD 149 undef = T.getD 154 undef := hF 5 (by decide)
        refine wp_extract (.tmp 149) 0 rfl _ (em.trans e) _ rfl (hK.out _ W hC (fun _ _ _ h => h) ?_)
        exact (mask_put [155, 154] 155 (by decide) _ _ _ (by rw [hT]; show 155 < 198; decide)).trans (congrArg (fun x => tupAt x 0) ((mask_put_ne [155, 154] 155 154 (by decide) _ _ _ (by decide)).trans e)).symm
      · intro T W hT hs hC hF K hK
        obtain ⟨h0vA8, h1vA0, h1vA1, h1vA2, h1vA3, h0vc8, h1vc0, h1vc1, h1vc2, h1vc3, e, O⟩ := hF 4 (by decide)
        have e : T.getD 154 undef = .tuple #[.agg #[.int .i64 r0d0, .int .i64 r0d1, .int .i64 r0d2, .int .i64 r0d3, .bool r0d4, .bool r0d5, .bool r0d6, .bool r0d7, .slice h0vA8 r0d8.length h0vc8], .agg #[.slice h1vA0 r1d0.length h1vc0, .slice h1vA1 r1d1.length h1vc1, .slice h1vA2 r1d2.length h1vc2, .slice h1vA3 r1d3.length h1vc3, .int .i64 r1d4], .int .i64 r2d0, .int .i64 r3d0, .int .i64 r4d0] := e
        have em : T.getD 149 undef = T.getD 154 undef := hF 5 (by decide)
        refine wp_extract (.tmp 149) 1 rfl _ (em.trans e) _ rfl (hK.out _ W hC (fun _ _ _ h => h) ?_)
        exact (mask_put [156, 154] 156 (by decide) _ _ _ (by rw [hT]; show 156 < 198; decide)).trans (congrArg (fun x => tupAt x 1) ((mask_put_ne [156, 154] 156 154 (by decide) _ _ _ (by decide)).trans e)).symm
      · intro T W hT hs hC hF K hK
        obtain ⟨h0vA8, h1vA0, h1vA1, h1vA2, h1vA3, h0vc8, h1vc0, h1vc1, h1vc2, h1vc3, e, O⟩ := hF 4 (by decide)
        have e : T.getD 154 undef = .tuple #[.agg #[.int .i64 r0d0, .int .i64 r0d1, .int .i64 r0d2, .int .i64 r0d3, .bool r0d4, .bool r0d5, .bool r0d6, .bool r0d7, .slice h0vA8 r0d8.length h0vc8], .agg #[.slice h1vA0 r1d0.length h1vc0, .slice h1vA1 r1d1.length h1vc1, .slice h1vA2 r1d2.length h1vc2, .slice h1vA3 r1d3.length h1vc3, .int .i64 r1d4], .int .i64 r2d0, .int .i64 r3d0, .int .i64 r4d0] := e
        have em : T.getD 149 undef = T.getD 154 undef := hF 5 (by decide)
        refine wp_extract (.tmp 149) 2 rfl _ (em.trans e) _ rfl (hK.out _ W hC (fun _ _ _ h => h) ?_)
        exact (mask_put [157, 154] 157 (by decide) _ _ _ (by rw [hT]; show 157 < 198; decide)).trans (congrArg (fun x => tupAt x 2) ((mask_put_ne [157, 154] 157 154 (by decide) _ _ _ (by decide)).trans e)).symm
      · intro T W hT hs hC hF K hK
        obtain ⟨h0vA8, h1vA0, h1vA1, h1vA2, h1vA3, h0vc8, h1vc0, h1vc1, h1vc2, h1vc3, e, O⟩ := hF 4 (by decide)
        have e : T.getD 154 undef = .tuple #[.agg #[.int .i64 r0d0, .int .i64 r0d1, .int .i64 r0d2, .int .i64 r0d3, .bool r0d4, .bool r0d5, .bool r0d6, .bool r0d7, .slice h0vA8 r0d8.length h0vc8], .agg #[.slice h1vA0 r1d0.length h1vc0, .slice h1vA1 r1d1.length h1vc1, .slice h1vA2 r1d2.length h1vc2, .slice h1vA3 r1d3.length h1vc3, .int .i64 r1d4], .int .i64 r2d0, .int .i64 r3d0, .int .i64 r4d0] := e
        have em : T.getD 149 undef = T.getD 154 undef := hF 5 (by decide)
        refine wp_extract (.tmp 149) 3 rfl _ (em.trans e) _ rfl (hK.out _ W hC (fun _ _ _ h => h) ?_)
        exact (mask_put [158, 154] 158 (by decide) _ _ _ (by rw [hT]; show 158 < 198; decide)).trans (congrArg (fun x => tupAt x 3) ((mask_put_ne [158, 154] 158 154 (by decide) _ _ _ (by decide)).trans e)).symm
      · intro T W hT hs hC hF K hK
        obtain ⟨h0vA8, h1vA0, h1vA1, h1vA2, h1vA3, h0vc8, h1vc0, h1vc1, h1vc2, h1vc3, e, O⟩ := hF 4 (by decide)
        have e : T.getD 154 undef = .tuple #[.agg #[.int .i64 r0d0, .int .i64 r0d1, .int .i64 r0d2, .int .i64 r0d3, .bool r0d4, .bool r0d5, .bool r0d6, .bool r0d7, .slice h0vA8 r0d8.length h0vc8], .agg #[.slice h1vA0 r1d0.length h1vc0, .slice h1vA1 r1d1.length h1vc1, .slice h1vA2 r1d2.length h1vc2, .slice h1vA3 r1d3.length h1vc3, .int .i64 r1d4], .int .i64 r2d0, .int .i64 r3d0, .int .i64 r4d0] := e
        have em : T.getD 149 undef = T.getD 154 undef := hF 5 (by decide)
        refine wp_extract (.tmp 149) 4 rfl _ (em.trans e) _ rfl (hK.out _ W hC (fun _ _ _ h => h) ?_)
        exact (mask_put [159, 154] 159 (by decide) _ _ _ (by rw [hT]; show 159 < 198; decide)).trans (congrArg (fun x => tupAt x 4) ((mask_put_ne [159, 154] 159 154 (by decide) _ _ _ (by decide)).trans e)).symm
      · intro T W hT hs hC hF K hK
        clear hF hs
        have k0 := alloc_below W (.cells #[.int .i64 0, .int .i64 0, .int .i64 0, .int .i64 0, .bool false, .bool false, .bool false, .bool false, .slice none 0 0] 25)
        refine wp_allocZ 25 rfl #[.int .i64 0, .int .i64 0, .int .i64 0, .int .i64 0, .bool false, .bool false, .bool false, .bool false, .slice none 0 0] (by kernel_rfl) ?_
        exact hK.out _ _ (hC.trans (k0.mono hC.size)) (fun j t _ h => rgh_below k0 j t h) ⟨W.heap.size, (mask_put [21] 21 (by decide) _ _ _ (by rw [hT]; show 21 < 198; decide)), hC.size, _, rfl, Box.new W 25 _⟩
      · intro T W hT hs hC hF K hK
        clear hF hs
        have k0 := alloc_below W (.cells #[.slice none 0 0, .slice none 0 0, .slice none 0 0, .slice none 0 0, .int .i64 0] 31)
        refine wp_allocZ 31 rfl #[.slice none 0 0, .slice none 0 0, .slice none 0 0, .slice none 0 0, .int .i64 0] (by kernel_rfl) ?_
        exact hK.out _ _ (hC.trans (k0.mono hC.size)) (fun j t _ h => rgh_below k0 j t h) ⟨W.heap.size, (mask_put [22] 22 (by decide) _ _ _ (by rw [hT]; show 22 < 198; decide)), hC.size, _, rfl, Box.new W 31 _⟩
      · intro T W hT hs hC hF K hK
        obtain ⟨h0vA8, h1vA0, h1vA1, h1vA2, h1vA3, h0vc8, h1vc0, h1vc1, h1vc2, h1vc3, e, O⟩ := hF 4 (by decide)
        have e : T.getD 154 undef = .tuple #[.agg #[.int .i64 r0d0, .int .i64 r0d1, .int .i64 r0d2, .int .i64 r0d3, .bool r0d4, .bool r0d5, .bool r0d6, .bool r0d7, .slice h0vA8 r0d8.length h0vc8], .agg #[.slice h1vA0 r1d0.length h1vc0, .slice h1vA1 r1d1.length h1vc1, .slice h1vA2 r1d2.length h1vc2, .slice h1vA3 r1d3.length h1vc3, .int .i64 r1d4], .int .i64 r2d0, .int .i64 r3d0, .int .i64 r4d0] := e
        obtain ⟨b, eb, hb, o, ho, X⟩ := hF 11 (by decide)
        have eb : T.getD 21 undef = .pointer (some ⟨b, 0, none⟩) := eb
        have ex : T.getD 155 undef = tupAt (T.getD 154 undef) 0 := hF 6 (by decide)
        rw [e] at ex
        have ex : T.getD 155 undef = .agg #[.int .i64 r0d0, .int .i64 r0d1, .int .i64 r0d2, .int .i64 r0d3, .bool r0d4, .bool r0d5, .bool r0d6, .bool r0d7, .slice h0vA8 r0d8.length h0vc8] := ex
        refine wp_store_row 25 (.tmp 21) (.tmp 155) rfl b #[.int .i64 r0d0, .int .i64 r0d1, .int .i64 r0d2, .int .i64 r0d3, .bool r0d4, .bool r0d5, .bool r0d6, .bool r0d7, .slice h0vA8 r0d8.length h0vc8] eb ex 25 o X (by kernel_rfl) (by rw [ho]; rfl) (by simp [Value.oneCell']) ?_
        refine hK.out _ _ (below_setRow hC hb _) (fun j t n h => rgh_store0 X _ rfl j t n h) ⟨b, eb, hb, ?_⟩
        show Box _ b 25 (aggC (tupAt (T.getD 154 undef) 0))
        rw [e]
        exact X.setRow _
      · intro T W hT hs hC hF K hK
        obtain ⟨h0vA8, h1vA0, h1vA1, h1vA2, h1vA3, h0vc8, h1vc0, h1vc1, h1vc2, h1vc3, e, O⟩ := hF 4 (by decide)
        have e : T.getD 154 undef = .tuple #[.agg #[.int .i64 r0d0, .int .i64 r0d1, .int .i64 r0d2, .int .i64 r0d3, .bool r0d4, .bool r0d5, .bool r0d6, .bool r0d7, .slice h0vA8 r0d8.length h0vc8], .agg #[.slice h1vA0 r1d0.length h1vc0, .slice h1vA1 r1d1.length h1vc1, .slice h1vA2 r1d2.length h1vc2, .slice h1vA3 r1d3.length h1vc3, .int .i64 r1d4], .int .i64 r2d0, .int .i64 r3d0, .int .i64 r4d0] := e
        obtain ⟨b, eb, hb, o, ho, X⟩ := hF 12 (by decide)
        have eb : T.getD 22 undef = .pointer (some ⟨b, 0, none⟩) := eb
        have ex : T.getD 156 undef = tupAt (T.getD 154 undef) 1 := hF 7 (by decide)
        rw [e] at ex
        have ex : T.getD 156 undef = .agg #[.slice h1vA0 r1d0.length h1vc0, .slice h1vA1 r1d1.length h1vc1, .slice h1vA2 r1d2.length h1vc2, .slice h1vA3 r1d3.length h1vc3, .int .i64 r1d4] := ex
        refine wp_store_row 31 (.tmp 22) (.tmp 156) rfl b #[.slice h1vA0 r1d0.length h1vc0, .slice h1vA1 r1d1.length h1vc1, .slice h1vA2 r1d2.length h1vc2, .slice h1vA3 r1d3.length h1vc3, .int .i64 r1d4] eb ex 31 o X (by kernel_rfl) (by rw [ho]; rfl) (by simp [Value.oneCell']) ?_
        refine hK.out _ _ (below_setRow hC hb _) (fun j t n h => rgh_store1 X _ rfl j t n h) ⟨b, eb, hb, ?_⟩
        show Box _ b 31 (aggC (tupAt (T.getD 154 undef) 1))
        rw [e]
        exact X.setRow _
      · intro T W hT hs hC hF K hK
        have ec : T.getD 157 undef = tupAt (T.getD 154 undef) 2 := hF 8 (by decide)
        refine wp_pure (.tmp 157) (.inl rfl) _ ec (hK.out _ W hC (fun _ _ _ h => h) ?_)
        exact (mask_put [23, 154] 23 (by decide) _ _ _ (by rw [hT]; show 23 < 198; decide)).trans (congrArg (fun x => tupAt x 2) (mask_put_ne [23, 154] 23 154 (by decide) _ _ _ (by decide))).symm
      · intro T W hT hs hC hF K hK
        have ec : T.getD 158 undef = tupAt (T.getD 154 undef) 3 := hF 9 (by decide)
        refine wp_pure (.tmp 158) (.inl rfl) _ ec (hK.out _ W hC (fun _ _ _ h => h) ?_)
        exact (mask_put [24, 154] 24 (by decide) _ _ _ (by rw [hT]; show 24 < 198; decide)).trans (congrArg (fun x => tupAt x 3) (mask_put_ne [24, 154] 24 154 (by decide) _ _ _ (by decide))).symm
      · intro T W hT hs hC hF K hK
        have ec : T.getD 159 undef = tupAt (T.getD 154 undef) 4 := hF 10 (by decide)
        refine wp_pure (.tmp 159) (.inl rfl) _ ec (hK.out _ W hC (fun _ _ _ h => h) ?_)
        exact (mask_put [25, 154] 25 (by decide) _ _ _ (by rw [hT]; show 25 < 198; decide)).trans (congrArg (fun x => tupAt x 4) (mask_put_ne [25, 154] 25 154 (by decide) _ _ _ (by decide))).symm
    · intro T w263 hT hs hC hF
      obtain ⟨h0vA8, h1vA0, h1vA1, h1vA2, h1vA3, h0vc8, h1vc0, h1vc1, h1vc2, h1vc3, e, NO⟩ := hF 4 (by decide)
      have v154 : T.getD 154 undef = .tuple #[.agg #[.int .i64 r0d0, .int .i64 r0d1, .int .i64 r0d2, .int .i64 r0d3, .bool r0d4, .bool r0d5, .bool r0d6, .bool r0d7, .slice h0vA8 r0d8.length h0vc8], .agg #[.slice h1vA0 r1d0.length h1vc0, .slice h1vA1 r1d1.length h1vc1, .slice h1vA2 r1d2.length h1vc2, .slice h1vA3 r1d3.length h1vc3, .int .i64 r1d4], .int .i64 r2d0, .int .i64 r3d0, .int .i64 r4d0] := e
      obtain ⟨bh0, e0, hbh0, Xh0⟩ := hF 13 (by decide)
      have v21 : T.getD 21 undef = .pointer (some ⟨bh0, 0, none⟩) := e0
      have Xh0 : Box w263 bh0 25 (aggC (tupAt (T.getD 154 undef) 0)) := Xh0
      rw [v154] at Xh0
      have Xh0 : Hid (Box w263 bh0 25 #[.int .i64 r0d0, .int .i64 r0d1, .int .i64 r0d2, .int .i64 r0d3, .bool r0d4, .bool r0d5, .bool r0d6, .bool r0d7, .slice h0vA8 r0d8.length h0vc8]) := Lib.hid Xh0
      have Zbh0 : Hid (w250.heap.size ≤ bh0 ∧ bh0 < w263.heap.size) := Lib.hid ⟨hbh0, Xh0.out.lt⟩
      obtain ⟨bh1, e1, hbh1, Xh1⟩ := hF 14 (by decide)
      have v22 : T.getD 22 undef = .pointer (some ⟨bh1, 0, none⟩) := e1
      have Xh1 : Box w263 bh1 31 (aggC (tupAt (T.getD 154 undef) 1)) := Xh1
      rw [v154] at Xh1
      have Xh1 : Hid (Box w263 bh1 31 #[.slice h1vA0 r1d0.length h1vc0, .slice h1vA1 r1d1.length h1vc1, .slice h1vA2 r1d2.length h1vc2, .slice h1vA3 r1d3.length h1vc3, .int .i64 r1d4]) := Lib.hid Xh1
      have Zbh1 : Hid (w250.heap.size ≤ bh1 ∧ bh1 < w263.heap.size) := Lib.hid ⟨hbh1, Xh1.out.lt⟩
      have v23 : T.getD 23 undef = tupAt (T.getD 154 undef) 2 := hF 15 (by decide)
      rw [v154] at v23
      have v23 : T.getD 23 undef = .int .i64 r2d0 := v23
      have v24 : T.getD 24 undef = tupAt (T.getD 154 undef) 3 := hF 16 (by decide)
      rw [v154] at v24
      have v24 : T.getD 24 undef = .int .i64 r3d0 := v24
      have v25 : T.getD 25 undef = tupAt (T.getD 154 undef) 4 := hF 17 (by decide)
      rw [v154] at v25
      have v25 : T.getD 25 undef = .int .i64 r4d0 := v25
      have v0 := hs 0 (by decide)
      conv at v0 => rhs; whnf
      have v1 := hs 1 (by decide)
      conv at v1 => rhs; whnf
      have v2 := hs 2 (by decide)
      conv at v2 => rhs; whnf
      have v3 := hs 3 (by decide)
      conv at v3 => rhs; whnf
      have v4 := hs 4 (by decide)
      conv at v4 => rhs; whnf
      have v5 := hs 5 (by decide)
      conv at v5 => rhs; whnf
      have v6 := hs 6 (by decide)
      conv at v6 => rhs; whnf
      have v7 := hs 7 (by decide)
      conv at v7 => rhs; whnf
      have v8 := hs 8 (by decide)
      conv at v8 => rhs; whnf
      have v9 := hs 9 (by decide)
      conv at v9 => rhs; whnf
      have v10 := hs 10 (by decide)
      conv at v10 => rhs; whnf
      have v11 := hs 11 (by decide)
      conv at v11 => rhs; whnf
      have v12 := hs 12 (by decide)
      conv at v12 => rhs; whnf
      have v13 := hs 13 (by decide)
      conv at v13 => rhs; whnf
      have v14 := hs 14 (by decide)
      conv at v14 => rhs; whnf
      have v15 := hs 15 (by decide)
      conv at v15 => rhs; whnf
      have v16 := hs 16 (by decide)
      conv at v16 => rhs; whnf
      have v17 := hs 17 (by decide)
      conv at v17 => rhs; whnf
      have v18 := hs 18 (by decide)
      conv at v18 => rhs; whnf
      have v19 := hs 19 (by decide)
      conv at v19 => rhs; whnf
      have v20 := hs 20 (by decide)
      conv at v20 => rhs; whnf
      have v26 := hs 26 (by decide)
      conv at v26 => rhs; whnf
      have v27 := hs 27 (by decide)
      conv at v27 => rhs; whnf
      have v28 := hs 28 (by decide)
      conv at v28 => rhs; whnf
      have v29 := hs 29 (by decide)
      conv at v29 => rhs; whnf
      have v30 := hs 30 (by decide)
      conv at v30 => rhs; whnf
      have v31 := hs 31 (by decide)
      conv at v31 => rhs; whnf
      have v32 := hs 32 (by decide)
      conv at v32 => rhs; whnf
      have v33 := hs 33 (by decide)
      conv at v33 => rhs; whnf
      have v34 := hs 34 (by decide)
      conv at v34 => rhs; whnf
      have v35 := hs 35 (by decide)
      conv at v35 => rhs; whnf
      rw [lit198 T hT]
      simp only [v154, v21, v22, v23, v24, v25, v0, v1, v2, v3, v4, v5, v6, v7, v8, v9, v10, v11, v12, v13, v14, v15, v16, v17, v18, v19, v20, v26, v27, v28, v29, v30, v31, v32, v33, v34, v35]
      have Nh := Lib.hid NO
      have hc : Below w250.heap.size w250 w263 := hC
      clear NO hF hs hT hC e hbh0 e0 hbh1 e1 v154 v21 v22 v23 v24 v25 v0 v1 v2 v3 v4 v5 v6 v7 v8 v9 v10 v11 v12 v13 v14 v15 v16 v17 v18 v19 v20 v26 v27 v28 v29 v30 v31 v32 v33 v34 v35
      have F264 := Lib.hid (F251.out.step hc)
      have F265 := Lib.hid (F252.out.step hc)
      have F266 := Lib.hid (F253.out.step hc)
      have F267 := Lib.hid (F254.out.step hc)
      have F268 := Lib.hid (F255.out.below hc)
      have F269 := Lib.hid (F256.out.step hc)
      have F270 := Lib.hid (F257.out.step hc)
      have F271 := Lib.hid (F258.out.below hc)
      have F272 := Lib.hid (F259.out.step hc)
      have F273 := Lib.hid (F260.out.step hc)
      have H274 := Lib.hid (bt H261.out hc)
      have Z275 : Hid (w250.heap.size ≤ w263.heap.size) := Lib.hid hc.size
      clear F251 F252 F253 F254 F255 F256 F257 F258 F259 F260 H261 hc
      have f0 : w263.cell? ⟨bh0, 0, none⟩ = some (.int .i64 r0d0) := Xh0.out.cell 0 rfl
      have f1 : w263.cell? ⟨bh0, 1, none⟩ = some (.int .i64 r0d1) := Xh0.out.cell 1 rfl
      have f2 : w263.cell? ⟨bh0, 2, none⟩ = some (.int .i64 r0d2) := Xh0.out.cell 2 rfl
      have f3 : w263.cell? ⟨bh0, 3, none⟩ = some (.int .i64 r0d3) := Xh0.out.cell 3 rfl
      have f4 : w263.cell? ⟨bh0, 4, none⟩ = some (.bool r0d4) := Xh0.out.cell 4 rfl
      have f5 : w263.cell? ⟨bh0, 5, none⟩ = some (.bool r0d5) := Xh0.out.cell 5 rfl
      have f6 : w263.cell? ⟨bh0, 6, none⟩ = some (.bool r0d6) := Xh0.out.cell 6 rfl
      have f7 : w263.cell? ⟨bh0, 7, none⟩ = some (.bool r0d7) := Xh0.out.cell 7 rfl
      have f8 : w263.cell? ⟨bh0, 8, none⟩ = some (.slice h0vA8 r0d8.length h0vc8) := Xh0.out.cell 8 rfl
      have f9 : w263.cell? ⟨bw0, 0, none⟩ = some (.int .i64 r0d0) := F266.out.cell 0 rfl
      have f10 : w263.cell? ⟨bw0, 1, none⟩ = some (.int .i64 r0d1) := F266.out.cell 1 rfl
      have f11 : w263.cell? ⟨bw0, 2, none⟩ = some (.int .i64 r0d2) := F266.out.cell 2 rfl
      have f12 : w263.cell? ⟨bw0, 3, none⟩ = some (.int .i64 r0d3) := F266.out.cell 3 rfl
      have f13 : w263.cell? ⟨bw0, 4, none⟩ = some (.bool r0d4) := F266.out.cell 4 rfl
      have f14 : w263.cell? ⟨bw0, 5, none⟩ = some (.bool r0d5) := F266.out.cell 5 rfl
      have f15 : w263.cell? ⟨bw0, 6, none⟩ = some (.bool r0d6) := F266.out.cell 6 rfl
      have f16 : w263.cell? ⟨bw0, 7, none⟩ = some (.bool r0d7) := F266.out.cell 7 rfl
      have f17 : w263.cell? ⟨bw0, 8, none⟩ = some (.slice w0vA8 r0d8.length w0vc8) := F266.out.cell 8 rfl
      go_wp2_with fail
      refine (eqCpuA h0vA8 h0vc8 w0vA8 w0vc8 r0d0 r0d1 r0d2 r0d3 r0d4 r0d5 r0d6 r0d7 r0d8 w263 (OwnA.seg (a := []) (m := [.slice h0vA8 r0d8.length h0vc8]) (b := [.slice h1vA0 r1d0.length h1vc0, .slice h1vA1 r1d1.length h1vc1, .slice h1vA2 r1d2.length h1vc2, .slice h1vA3 r1d3.length h1vc3]) (da := []) (dm := [Lf.I r0d8]) (db := [Lf.I r1d0, Lf.I r1d1, Lf.I r1d2, Lf.B r1d3]) Nh.out rfl rfl).reads (OwnA.seg (a := []) (m := [.slice w0vA8 r0d8.length w0vc8]) (b := [.slice w1vA0 r1d0.length w1vc0, .slice w1vA1 r1d1.length w1vc1, .slice w1vA2 r1d2.length w1vc2, .slice w1vA3 r1d3.length w1vc3]) (da := []) (dm := [Lf.I r0d8]) (db := [Lf.I r1d0, Lf.I r1d1, Lf.I r1d2, Lf.B r1d3]) F268.out rfl rfl).reads (Nat.le_trans HBr0.out (by unfold maxLen; omega))).mono ?_
      rintro e w276 ⟨rfl, hc⟩
      clear f0 f1 f2 f3 f4 f5 f6 f7 f8 f9 f10 f11 f12 f13 f14 f15 f16 f17
      have F277 := Lib.hid (F264.out.step hc)
      have F278 := Lib.hid (F265.out.step hc)
      have F279 := Lib.hid (F266.out.step hc)
      have F280 := Lib.hid (F267.out.step hc)
      have F281 := Lib.hid (F268.out.below hc)
      have F282 := Lib.hid (F269.out.step hc)
      have F283 := Lib.hid (F270.out.step hc)
      have F284 := Lib.hid (F271.out.below hc)
      have F285 := Lib.hid (F272.out.step hc)
      have F286 := Lib.hid (F273.out.step hc)
      have F287 := Lib.hid (Xh0.out.step hc)
      have F288 := Lib.hid (Xh1.out.step hc)
      have F289 := Lib.hid (Nh.out.below hc)
      have H290 := Lib.hid (bt H274.out hc)
      have Z291 : Hid (w263.heap.size ≤ w276.heap.size) := Lib.hid hc.size
      clear F264 F265 F266 F267 F268 F269 F270 F271 F272 F273 Xh0 Xh1 Nh H274 hc
      have f0 : w276.cell? ⟨bh1, 0, none⟩ = some (.slice h1vA0 r1d0.length h1vc0) := F288.out.cell 0 rfl
      have f1 : w276.cell? ⟨bh1, 1, none⟩ = some (.slice h1vA1 r1d1.length h1vc1) := F288.out.cell 1 rfl
      have f2 : w276.cell? ⟨bh1, 2, none⟩ = some (.slice h1vA2 r1d2.length h1vc2) := F288.out.cell 2 rfl
      have f3 : w276.cell? ⟨bh1, 3, none⟩ = some (.slice h1vA3 r1d3.length h1vc3) := F288.out.cell 3 rfl
      have f4 : w276.cell? ⟨bh1, 4, none⟩ = some (.int .i64 r1d4) := F288.out.cell 4 rfl
      have f5 : w276.cell? ⟨bw1, 0, none⟩ = some (.slice w1vA0 r1d0.length w1vc0) := F280.out.cell 0 rfl
      have f6 : w276.cell? ⟨bw1, 1, none⟩ = some (.slice w1vA1 r1d1.length w1vc1) := F280.out.cell 1 rfl
      have f7 : w276.cell? ⟨bw1, 2, none⟩ = some (.slice w1vA2 r1d2.length w1vc2) := F280.out.cell 2 rfl
      have f8 : w276.cell? ⟨bw1, 3, none⟩ = some (.slice w1vA3 r1d3.length w1vc3) := F280.out.cell 3 rfl
      have f9 : w276.cell? ⟨bw1, 4, none⟩ = some (.int .i64 r1d4) := F280.out.cell 4 rfl
      go_wp2_with fail
      refine (eqMemA h1vA0 h1vA1 h1vA2 h1vA3 h1vc0 h1vc1 h1vc2 h1vc3 w1vA0 w1vA1 w1vA2 w1vA3 w1vc0 w1vc1 w1vc2 w1vc3 r1d0 r1d1 r1d2 r1d3 r1d4 w276 (OwnA.seg (a := [.slice h0vA8 r0d8.length h0vc8]) (m := [.slice h1vA0 r1d0.length h1vc0, .slice h1vA1 r1d1.length h1vc1, .slice h1vA2 r1d2.length h1vc2, .slice h1vA3 r1d3.length h1vc3]) (b := []) (da := [Lf.I r0d8]) (dm := [Lf.I r1d0, Lf.I r1d1, Lf.I r1d2, Lf.B r1d3]) (db := []) F289.out rfl rfl).reads (OwnA.seg (a := [.slice w0vA8 r0d8.length w0vc8]) (m := [.slice w1vA0 r1d0.length w1vc0, .slice w1vA1 r1d1.length w1vc1, .slice w1vA2 r1d2.length w1vc2, .slice w1vA3 r1d3.length w1vc3]) (b := []) (da := [Lf.I r0d8]) (dm := [Lf.I r1d0, Lf.I r1d1, Lf.I r1d2, Lf.B r1d3]) (db := []) F281.out rfl rfl).reads (Nat.le_trans HBr1.out (by unfold maxLen; omega))).mono ?_
      rintro e w292 ⟨rfl, hc⟩
      clear f0 f1 f2 f3 f4 f5 f6 f7 f8 f9
      have F293 := Lib.hid (F277.out.step hc)
      have F294 := Lib.hid (F278.out.step hc)
      have F295 := Lib.hid (F279.out.step hc)
      have F296 := Lib.hid (F280.out.step hc)
      have F297 := Lib.hid (F281.out.below hc)
      have F298 := Lib.hid (F282.out.step hc)
      have F299 := Lib.hid (F283.out.step hc)
      have F300 := Lib.hid (F284.out.below hc)
      have F301 := Lib.hid (F285.out.step hc)
      have F302 := Lib.hid (F286.out.step hc)
      have F303 := Lib.hid (F287.out.step hc)
      have F304 := Lib.hid (F288.out.step hc)
      have F305 := Lib.hid (F289.out.below hc)
      have H306 := Lib.hid (bt H290.out hc)
      have Z307 : Hid (w276.heap.size ≤ w292.heap.size) := Lib.hid hc.size
      clear F277 F278 F279 F280 F281 F282 F283 F284 F285 F286 F287 F288 F289 H290 hc
      have f0 : w292.cell? ⟨w64.heap.size, 0, none⟩ = some (.int .i64 r0d0) := F301.out.cell 0 rfl
      have f1 : w292.cell? ⟨w64.heap.size, 1, none⟩ = some (.int .i64 r0d1) := F301.out.cell 1 rfl
      have f2 : w292.cell? ⟨w64.heap.size, 2, none⟩ = some (.int .i64 r0d2) := F301.out.cell 2 rfl
      have f3 : w292.cell? ⟨w64.heap.size, 3, none⟩ = some (.int .i64 r0d3) := F301.out.cell 3 rfl
      have f4 : w292.cell? ⟨w64.heap.size, 4, none⟩ = some (.bool r0d4) := F301.out.cell 4 rfl
      have f5 : w292.cell? ⟨w64.heap.size, 5, none⟩ = some (.bool r0d5) := F301.out.cell 5 rfl
      have f6 : w292.cell? ⟨w64.heap.size, 6, none⟩ = some (.bool r0d6) := F301.out.cell 6 rfl
      have f7 : w292.cell? ⟨w64.heap.size, 7, none⟩ = some (.bool r0d7) := F301.out.cell 7 rfl
      have f8 : w292.cell? ⟨w64.heap.size, 8, none⟩ = some (.slice g0vA8 r0d8.length g0vc8) := F301.out.cell 8 rfl
      go_wp2_with fail
      refine (heldCpuA g0vA8 g0vc8 r0d0 r0d1 r0d2 r0d3 r0d4 r0d5 r0d6 r0d7 r0d8 (1) w292 (RepA.seg (a := []) (m := [.slice g0vA8 r0d8.length g0vc8]) (b := [.slice g1vA0 r1d0.length g1vc0, .slice g1vA1 r1d1.length g1vc1, .slice g1vA2 r1d2.length g1vc2, .slice g1vA3 r1d3.length g1vc3]) (da := []) (dm := marksA (1) [Lf.I r0d8]) (db := [(Lf.I r1d0).marks (1 + lenA [Lf.I r0d8]), (Lf.I r1d1).marks (1 + lenA [Lf.I r0d8] + (Lf.I r1d0).len), (Lf.I r1d2).marks (1 + lenA [Lf.I r0d8] + (Lf.I r1d0).len + (Lf.I r1d1).len), (Lf.B r1d3).marks (1 + lenA [Lf.I r0d8] + (Lf.I r1d0).len + (Lf.I r1d1).len + (Lf.I r1d2).len)]) F300.out.reads rfl rfl) (by omega) (BndA.of_len HBr0.out) (by have := HBr0.out; have := HBr1.out; omega)).mono ?_
      rintro e w308 ⟨rfl, hc⟩
      clear f0 f1 f2 f3 f4 f5 f6 f7 f8
      have F309 := Lib.hid (F293.out.step hc)
      have F310 := Lib.hid (F294.out.step hc)
      have F311 := Lib.hid (F295.out.step hc)
      have F312 := Lib.hid (F296.out.step hc)
      have F313 := Lib.hid (F297.out.below hc)
      have F314 := Lib.hid (F298.out.step hc)
      have F315 := Lib.hid (F299.out.step hc)
      have F316 := Lib.hid (F300.out.below hc)
      have F317 := Lib.hid (F301.out.step hc)
      have F318 := Lib.hid (F302.out.step hc)
      have F319 := Lib.hid (F303.out.step hc)
      have F320 := Lib.hid (F304.out.step hc)
      have F321 := Lib.hid (F305.out.below hc)
      have H322 := Lib.hid (bt H306.out hc)
      have Z323 : Hid (w292.heap.size ≤ w308.heap.size) := Lib.hid hc.size
      clear F293 F294 F295 F296 F297 F298 F299 F300 F301 F302 F303 F304 F305 H306 hc
      have hqw308 : ¬ ((1 + lenA [Lf.I r0d8] : Nat) : Int) < 0 := by omega
      have f0 : w308.cell? ⟨w64.heap.size + 1, 0, none⟩ = some (.slice g1vA0 r1d0.length g1vc0) := F318.out.cell 0 rfl
      have f1 : w308.cell? ⟨w64.heap.size + 1, 1, none⟩ = some (.slice g1vA1 r1d1.length g1vc1) := F318.out.cell 1 rfl
      have f2 : w308.cell? ⟨w64.heap.size + 1, 2, none⟩ = some (.slice g1vA2 r1d2.length g1vc2) := F318.out.cell 2 rfl
      have f3 : w308.cell? ⟨w64.heap.size + 1, 3, none⟩ = some (.slice g1vA3 r1d3.length g1vc3) := F318.out.cell 3 rfl
      have f4 : w308.cell? ⟨w64.heap.size + 1, 4, none⟩ = some (.int .i64 r1d4) := F318.out.cell 4 rfl
      go_wp2_with fail
      refine (heldMemA g1vA0 g1vA1 g1vA2 g1vA3 g1vc0 g1vc1 g1vc2 g1vc3 r1d0 r1d1 r1d2 r1d3 r1d4 (1 + lenA [Lf.I r0d8]) w308 (RepA.seg (a := [.slice g0vA8 r0d8.length g0vc8]) (m := [.slice g1vA0 r1d0.length g1vc0, .slice g1vA1 r1d1.length g1vc1, .slice g1vA2 r1d2.length g1vc2, .slice g1vA3 r1d3.length g1vc3]) (b := []) (da := [(Lf.I r0d8).marks (1)]) (dm := marksA (1 + lenA [Lf.I r0d8]) [Lf.I r1d0, Lf.I r1d1, Lf.I r1d2, Lf.B r1d3]) (db := []) F316.out.reads rfl rfl) (by omega) (BndA.of_len HBr1.out) (by have := HBr0.out; have := HBr1.out; omega)).mono ?_
      rintro e w324 ⟨rfl, hc⟩
      clear f0 f1 f2 f3 f4
      have F325 := Lib.hid (F309.out.step hc)
      have F326 := Lib.hid (F310.out.step hc)
      have F327 := Lib.hid (F311.out.step hc)
      have F328 := Lib.hid (F312.out.step hc)
      have F329 := Lib.hid (F313.out.below hc)
      have F330 := Lib.hid (F314.out.step hc)
      have F331 := Lib.hid (F315.out.step hc)
      have F332 := Lib.hid (F316.out.below hc)
      have F333 := Lib.hid (F317.out.step hc)
      have F334 := Lib.hid (F318.out.step hc)
      have F335 := Lib.hid (F319.out.step hc)
      have F336 := Lib.hid (F320.out.step hc)
      have F337 := Lib.hid (F321.out.below hc)
      have H338 := Lib.hid (bt H322.out hc)
      have Z339 : Hid (w308.heap.size ≤ w324.heap.size) := Lib.hid hc.size
      clear F309 F310 F311 F312 F313 F314 F315 F316 F317 F318 F319 F320 F321 H322 hc
      have hqw324 : ¬ ((1 + lenA [Lf.I r0d8] + lenA [Lf.I r1d0, Lf.I r1d1, Lf.I r1d2, Lf.B r1d3] : Nat) : Int) < 0 := by omega
      go_wp2
      go_ret
      exact ⟨rfl, H338.out⟩

/-! The row's step and the card. -/
open Go.ChangeShapes Go.WideShapes Go.ChangeAt
open Go.ChangeMaps (open_string shut_string)
set_option maxRecDepth 100000 in
theorem laidOut : laidOutB Tryz.prog = true := factLaid
set_option maxRecDepth 100000 in
theorem laid_met (os : Os) (args : Array Value) : laidMet Tryz.prog Rows.fnExactStepCpuRow.laid ((laidWorld os).forCall (fun _ _ => 0) ⟨#[], args, []⟩).memory :=
  laidMet_of_run' 8 (by kernel_rfl) (by kernel_rfl)
set_option maxRecDepth 100000 in
theorem laid_of {W : World} (h : laidMetH Tryz.prog Rows.fnExactStepCpuRow.laid W) : laidMet Tryz.prog Rows.fnExactStepCpuRow.laid W := h
set_option maxRecDepth 100000 in
theorem ops_of {W : World} (h : laidMetH Tryz.prog Rows.fnExactStepCpuRow.laid W) : W.var? Tryz.prog "loop.example/g00563/impl.operations" = some opCells :=
  var_of_reads (reads_of_laid (laid_of h) (by unfold Rows.fnExactStepCpuRow; repeat (first | exact List.Mem.head _ | apply List.Mem.tail)))
set_option maxRecDepth 100000 in
theorem contract (H : Type) (enc : TypeId × Value → H) (W : World) (base : Nat) (args : Array Value) (ds gs : List (DataW H)) (before : List MemPlace)
    (hval0 : ∀ (j : Nat) t v, Tryz.f5.params[j]? = some t → args[j]? = some v → Value.okWide Tryz.prog W .any base t v)
    (hW : DataW.Whole enc Tryz.prog Tryz.f5.params.toList Rows.fnExactStepCpuSpec.vars false W args.toList ds gs before) (hL : laidMetH Tryz.prog Rows.fnExactStepCpuRow.laid W) :
    Calls Tryz.prog 5 args W fun e W' => ∃ v, e = .returned v ∧ Rows.fnExactStepCpuSpec.post enc Tryz.prog Tryz.f5 false true false false W args v W' := by
  have hval : ∀ (j : Nat) t v, Tryz.f5.params[j]? = some t → args[j]? = some v → Value.okWide Tryz.prog W .any base t v := hval0
  have hW' := hW
  obtain ⟨p, q, hA0, hV0, rfl, hfz, hnd⟩ := hW
  have hA : DataW.TrodAll enc Tryz.prog W 0 (fun _ => true) true Tryz.f5.params.toList args.toList ds p := hA0
  have hV : DataW.TrodVars enc Tryz.prog W (fun _ => true) ["loop.example/g00563/impl.operations"] gs q := hV0
  rw [Tryz.params5] at hA hval
  obtain ⟨v0, vs0, d0, ds0, p0, q0, hargs, rfl, rfl, h0, r0⟩ := trodAll_cons hA
  obtain ⟨v1, vs1, d1, ds1, p1, q1, rfl, rfl, rfl, h1, r1⟩ := trodAll_cons r0
  obtain ⟨rfl, rfl, rfl⟩ := trodAll_nil r1
  obtain rfl : args = #[v0, v1] := by cases args; simp_all
  have k0 := h0
  have lt0 : ∀ x ∈ p0, x.block < W.heap.size := by obtain ⟨m, hm⟩ := k0; exact DataW.trod_lt m _ _ _ hm
  obtain ⟨a0vA8, a0vc8, a0d0, a0d1, a0d2, a0d3, a0d4, a0d5, a0d6, a0d7, a0d8, rfl, R0, G0⟩ := openCpu (hval 0 44 v0 rfl rfl) h0
  have k1 := h1
  have lt1 : ∀ x ∈ p1, x.block < W.heap.size := by obtain ⟨m, hm⟩ := k1; exact DataW.trod_lt m _ _ _ hm
  obtain ⟨a1vA0, a1vA1, a1vA2, a1vA3, a1vc0, a1vc1, a1vc2, a1vc3, a1d0, a1d1, a1d2, a1d3, a1d4, rfl, R1, G1⟩ := openMem (hval 1 47 v1 rfl rfl) h1
  obtain ⟨g, t, cs, fuel, d, p', rfl, hg, ht, hvar, hd, rfl⟩ := trodVars_one hV
  obtain rfl := Option.some.inj (gOps.symm.trans hg)
  obtain rfl := Option.some.inj (gOpsType.symm.trans ht)
  obtain rfl : cs = opCells := Option.some.inj (hvar.symm.trans (ops_of hL))
  obtain ⟨rfl, rfl⟩ := DataW.Trod.unique (v := .agg opCells) ⟨fuel, hd⟩ ⟨4, reads_ops enc W _⟩
  clear hA0 hV0 hval0
  have HT := opsT_of_var hvar
  refine (walk a0vA8 a0vc8 a0d0 a0d1 a0d2 a0d3 a0d4 a0d5 a0d6 a0d7 a0d8 a1vA0 a1vA1 a1vA2 a1vA3 a1vc0 a1vc1 a1vc2 a1vc3 a1d0 a1d1 a1d2 a1d3 a1d4 W R0 G0 R1 G1 HT).mono fun e W' ⟨he, bel⟩ => ?_
  subst he
  exact ⟨_, rfl, _, _, _, [], _, _, hW', trodAll_mk1 (shut_bool Tryz.underlying4 _), (trodAll_cons_mk (Below.trod laidOut (by kernel_rfl) (of_decide_eq_true (by kernel_rfl)) k0 bel lt0) (trodAll_cons_mk (Below.trod laidOut (by kernel_rfl) (of_decide_eq_true (by kernel_rfl)) k1 bel lt1) trodAll_mk0)), ⟨0, 101, opCells, 4, [], [], hg, ht, var?_below bel hg HT.lt hvar, reads_ops enc W' _, rfl, rfl⟩, bel.frame _, fun h => by cases h⟩

set_option maxRecDepth 100000 in
theorem reads (os : Os) {H : Type} (enc : TypeId × Value → H) : ∃ x, DataW.whole enc Tryz.prog ((laidWorld os).forCall (fun _ _ => 0) ⟨#[], #[.agg #[.int .i64 0, .int .i64 0, .int .i64 0, .int .i64 0, .bool false, .bool false, .bool false, .bool false, .slice none 0 0], .agg #[.slice none 0 0, .slice none 0 0, .slice none 0 0, .slice none 0 0, .int .i64 0]], []⟩).memory Tryz.f5.params.toList Rows.fnExactStepCpuSpec.vars false (#[.agg #[.int .i64 0, .int .i64 0, .int .i64 0, .int .i64 0, .bool false, .bool false, .bool false, .bool false, .slice none 0 0], .agg #[.slice none 0 0, .slice none 0 0, .slice none 0 0, .slice none 0 0, .int .i64 0]] : Array Value).toList 8 = some x :=
  Option.isSome_iff_exists.1 (by kernel_rfl)

set_option maxRecDepth 100000 in
theorem lifted (os : Os) (started : os.Started) (H : Type) (enc : TypeId × Value → H) (F : Stop.Interp) :
    ReturnsInHanded {} Tryz.checked os 5 .any ((OpenSpec.ofChange Rows.fnExactStepCpuSpec).preRow enc Tryz.prog Tryz.f5 Rows.fnExactStepCpuRow.domain false Rows.fnExactStepCpuRow.laid) (((OpenSpec.ofChange Rows.fnExactStepCpuSpec).at F).post enc Tryz.prog Tryz.f5 false true false false) := by
  obtain ⟨x, hx⟩ := reads os enc
  refine returnsInHanded_of_row (C := Tryz.checked) (s := OpenSpec.ofChange Rows.fnExactStepCpuSpec) ownK started (by kernel_rfl) Tryz.func5
    (witness_row_at (enc := enc) (C := Tryz.checked) false (laidWorld os) #[.agg #[.int .i64 0, .int .i64 0, .int .i64 0, .int .i64 0, .bool false, .bool false, .bool false, .bool false, .slice none 0 0], .agg #[.slice none 0 0, .slice none 0 0, .slice none 0 0, .slice none 0 0, .int .i64 0]] rfl (by kernel_rfl) (by kernel_rfl) (by kernel_rfl)
      (OpenSpec.preRow_of_cond 8 hx rfl (fun k hk => by cases hk) (by kernel_rfl) (laid_met os _))) ?_
  intro W base args ds gs before hval hW _ _ _ hL _ _
  exact contract H enc W base args ds gs before hval hW hL

theorem k0 : (Rows.fnExactStepCpuRow.wf (OpenSpec.ofChange Rows.fnExactStepCpuSpec)) = true := by kernel_rfl
set_option maxRecDepth 100000 in
theorem k3 : (Tryz.f5.params.all (Tryz.prog.readableRec ·)) = true := by kernel_rfl
set_option maxRecDepth 100000 in
theorem k4 : (namedTie Tryz.prog Rows.fnExactStepCpuRow.named Rows.fnExactStepCpuSpec.vars) = true := by kernel_rfl
theorem k5 : ((Rows.fnExactStepCpuRow.stops == [])) = true := by kernel_rfl
set_option maxRecDepth 100000 in
theorem k6 : ((Tryz.prog.stops == [])) = true := by kernel_rfl
theorem k7 : ((Rows.fnExactStepCpuRow.knobs == [])) = true := by kernel_rfl
set_option maxRecDepth 100000 in
theorem k8 : ((Tryz.prog.stopKnobs == [])) = true := by kernel_rfl
set_option maxRecDepth 100000 in
theorem k9 : ((Rows.fnExactStepCpuRow.inPlace == Tryz.prog.inPlace 5)) = true := by kernel_rfl
set_option maxRecDepth 100000 in
theorem k10 : ((Rows.fnExactStepCpuRow.unfollowed == Tryz.prog.unfollowed 5)) = true := by kernel_rfl
set_option maxRecDepth 100000 in
theorem k11 : ((Rows.fnExactStepCpuRow.recurses == Tryz.prog.recurses 5)) = true := by kernel_rfl
set_option maxRecDepth 100000 in
theorem k12 : ((Rows.fnExactStepCpuRow.named == Tryz.prog.varsNamed 5)) = true := by kernel_rfl
set_option maxRecDepth 100000 in
theorem k13 : ((Rows.fnExactStepCpuRow.maps == (Tryz.f5.params.toList ++ Rows.fnExactStepCpuSpec.plain.varTypes Tryz.prog).any (Tryz.prog.mapsRec ·))) = true := by kernel_rfl
set_option maxRecDepth 100000 in
theorem k14 : ((Rows.fnExactStepCpuRow.ifaces == (Tryz.f5.params.toList ++ Rows.fnExactStepCpuSpec.plain.varTypes Tryz.prog).any (Tryz.prog.ifacesRec ·))) = true := by kernel_rfl
set_option maxRecDepth 100000 in
theorem k15 : ((Rows.fnExactStepCpuRow.mapsOut == Tryz.prog.mapsAmong Tryz.f5.resultTypes.toList)) = true := by kernel_rfl
set_option maxRecDepth 100000 in
theorem k16 : ((Rows.fnExactStepCpuRow.loops == (Tryz.f5.params.toList ++ Rows.fnExactStepCpuSpec.plain.varTypes Tryz.prog).any (Tryz.prog.loopsFrom ·))) = true := by kernel_rfl
set_option maxRecDepth 100000 in
theorem k17 : ((Rows.fnExactStepCpuRow.wideKeys == (Tryz.f5.params.toList ++ Rows.fnExactStepCpuSpec.plain.varTypes Tryz.prog ++ Tryz.f5.resultTypes.toList).any (Tryz.prog.wideKeysFrom ·))) = true := by kernel_rfl
set_option maxRecDepth 100000 in
theorem k18 : (Rows.fnExactStepCpuSpec.vars.all (Tryz.prog.varReadable ·)) = true := by kernel_rfl
set_option maxRecDepth 100000 in
theorem k19 : (Tryz.f5.resultTypes.all (fun t => Tryz.prog.readableRec t && decide (t < Tryz.prog.types.size))) = true := by kernel_rfl
set_option maxRecDepth 100000 in
theorem k20 : ((Rows.fnExactStepCpuRow.ifacesOut == Tryz.f5.resultTypes.toList.any (Tryz.prog.ifacesRec ·))) = true := by kernel_rfl
set_option maxRecDepth 100000 in
theorem k21 : ((Rows.fnExactStepCpuRow.loopsOut == Tryz.f5.resultTypes.toList.any (Tryz.prog.loopsFrom ·))) = true := by kernel_rfl
set_option maxRecDepth 100000 in
theorem k22 : ((Rows.fnExactStepCpuRow.plainKeys == Tryz.prog.plainKeys)) = true := by kernel_rfl
theorem k23 : (Rows.fnExactStepCpuRow.shortTexts.isNone) = true := by kernel_rfl
set_option maxRecDepth 100000 in
theorem k28 : ((Rows.fnExactStepCpuRow.kinds == (if Rows.fnExactStepCpuRow.domain.isEmpty then [] else Tryz.f5.params.toList.map fun t => match Tryz.prog.underlying t with | some (.int k) => some k | _ => none))) = true := by kernel_rfl
theorem k29 : ((Rows.fnExactStepCpuRow.pinned == Rows.fnExactStepCpuRow.pinnedBy)) = true := by kernel_rfl
set_option maxRecDepth 100000 in
theorem k30 : ((Rows.fnExactStepCpuRow.veiled == (Tryz.f5.params.toList ++ Rows.fnExactStepCpuSpec.plain.varTypes Tryz.prog ++ Tryz.f5.resultTypes.toList).any (Tryz.prog.veiledRec ·))) = true := by kernel_rfl
set_option maxRecDepth 100000 in
theorem k31 : (Rows.fnExactStepCpuRow.veiledFits Tryz.prog Tryz.f5.params.toList (Tryz.f5.params.toList ++ Rows.fnExactStepCpuSpec.plain.varTypes Tryz.prog ++ Tryz.f5.resultTypes.toList)) = true := by kernel_rfl
set_option maxRecDepth 100000 in
theorem facts : joinedFacts Tryz.prog 5 Tryz.f5 Rows.fnExactStepCpuSpec Rows.fnExactStepCpuRow = true := (and_mk (and_mk (and_mk (and_mk (and_mk (and_mk (and_mk (and_mk (and_mk (and_mk (and_mk (and_mk (and_mk (and_mk (and_mk (and_mk (and_mk (and_mk (and_mk (and_mk (and_mk (and_mk (and_mk (and_mk (and_mk (and_mk (and_mk (and_mk (and_mk (and_mk (and_mk k0 factLaid) factRowed) k3) k4) k5) k6) k7) k8) k9) k10) k11) k12) k13) k14) k15) k16) k17) k18) k19) k20) k21) k22) k23) factHeard) factEnter) factLift) factMake) k28) k29) k30) k31)
set_option maxRecDepth 100000 in
theorem named : Tryz.prog.funcNamed Rows.fnExactStepCpuRow.func = some 5 := by kernel_rfl
set_option maxRecDepth 100000 in
theorem inst : Tryz.f5.isInstance Tryz.prog Rows.fnExactStepCpuRow.origin Rows.fnExactStepCpuRow.targs := of_decide_eq_true (by kernel_rfl)
set_option maxRecDepth 100000 in
theorem said : Rows.FnExactStepCpuSaid :=
  OpenClaim.holds_of_cond 5 Tryz.f5 rfl rfl rfl rfl rfl rfl rfl ⟨rfl, rfl, rfl, rfl, rfl⟩ rfl rfl rfl rfl rfl named Tryz.func5 facts
    inst (by unfold Func.isWrapper; first | (rw [if_pos (by decide +kernel)]; kernel_rfl) | (rw [if_neg (by decide +kernel)]; exact ⟨rfl, rfl⟩))
    (fun os started H enc _ F => by rw [OpenClaim.pre_eq_preRow]; exact lifted os started H enc F)

set_option maxRecDepth 100000 in
theorem plain (f : FuncId) (fn : Func) (hf : Tryz.pinned.checked.prog.funcNamed "loop.example/g00563/laws.FnExactStepCpu" = some f) (hfn : Tryz.pinned.checked.prog.funcs[f]? = some fn) :
    false = Tryz.pinned.checked.prog.looks [] ∧ ∀ (j : Nat) t, fn.params[j]? = some t → Tryz.pinned.checked.prog.wantsStandIn t = false := by
  obtain rfl : f = 5 := Option.some.inj ((show Tryz.prog.funcNamed "loop.example/g00563/laws.FnExactStepCpu" = some 5 by kernel_rfl).symm.trans hf) |>.symm
  obtain rfl : fn = Tryz.f5 := (Option.some.inj (Tryz.func5.symm.trans hfn)).symm
  refine ⟨by kernel_rfl, fun j t ht => ?_⟩
  rw [Tryz.params5] at ht
  have hm := Array.mem_of_getElem? ht
  simp only [List.mem_toArray, List.mem_cons, List.not_mem_nil, or_false] at hm
  rcases hm with rfl | rfl <;> exact (show Tryz.prog.wantsStandIn _ = false by kernel_rfl)

theorem card : Rows.FnExactStepCpuCardSaid :=
  Claim7.holds_tied_plain_at .later [] _ _ _ _ said (fun _ h => by cases h) (by kernel_rfl) (fun _ h => by cases h) fnExactStepCpu_row_tie rfl ⟨rfl, rfl⟩ (by kernel_rfl) rfl plain (by kernel_rfl)
#print axioms card
end Go.Proofs.YtophgbjbinaekaaGreatDoor.fnExactStepCpu
