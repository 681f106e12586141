/- A slice of one byte of the call's own, with a code's bytes appended; the law on write cycles, walked. -/
import Derived.Test.YtapopagphoiemaaFlashCyc
import Derived.Deep.DeepCutAuto
import Derived.Deep.DeepFit
namespace Go.Proofs.Ytapopagphoiemaa
open Go.RowKit

def cellsY (zs : List Nat) : List Value := zs.map fun z : Nat => Value.int .u8 (z : Int)
theorem cellsY_len (zs : List Nat) : (cellsY zs).length = zs.length := by simp [cellsY]
theorem cellsY_at (zs : List Nat) (j : Nat) (h : j < zs.length) : (cellsY zs)[j]? = some (.int .u8 (zs.getD j 0 : Nat)) := by
  unfold cellsY
  rw [List.getElem?_map, List.getD_eq_getElem?_getD, List.getElem?_eq_getElem h]
  rfl
theorem ByB.src {w : World} {lo : Nat} {A : Option Addr} {zs : List Nat} (h : ByB w lo A zs) (hn : 0 < zs.length) : ∃ ad, A = some ad ∧ ∀ j u, (cellsY zs)[j]? = some u → w.cell? (ad.add j) = some u := by
  obtain ⟨b, off, e, _, _, _⟩ := h 0 hn
  refine ⟨_, e, fun j u hu => ?_⟩
  have hj : j < zs.length := by have := (List.getElem?_eq_some_iff.1 hu).1; rwa [cellsY_len] at this
  rw [cellsY_at zs j hj] at hu
  obtain ⟨b', off', e', _, hc, _⟩ := h j hj
  rw [e] at e'
  injection e' with e'
  injection e' with e1 e2 e3
  subst e1 e2
  rw [addr_add, hc, ← hu]
theorem ByB.lt {w : World} {lo : Nat} {A : Option Addr} {zs : List Nat} (h : ByB w lo A zs) : ∀ i, i < zs.length → zs.getD i 0 < 256 := fun i hi => by
  obtain ⟨_, _, _, _, _, q⟩ := h i hi
  exact q
set_option maxRecDepth 100000 in
theorem infoUx : ∃ i : TypeInfo, Try.prog.info? 5 = some i ∧ i.zero = some (.int .u8 0) ∧ i.size = 1 ∧ i.bytes = 1 := ⟨_, rfl, rfl, rfl, rfl⟩
theorem byB_of_owns {w : World} {base n : Nat} {v : Value} {zs : List Nat} (h : w.ownsRow base 5 1 v n (cellsY zs)) (hn : 0 < n) (hz : ∀ i, i < zs.length → zs.getD i 0 < 256) : ∃ A cap, v = .slice A n cap ∧ ByB w w.heap.size A zs := by
  have hc := fun g (hg : v.ownBlock = some g) => h.cells hg
  have hl := h.lt
  obtain ⟨h1, ⟨rfl, h0⟩ | ⟨g, cap, cur, rfl, q⟩⟩ := h
  · omega
  · refine ⟨_, cap, rfl, fun i hi => ⟨g, 0, rfl, (hl g rfl).2, ?_, hz i hi⟩⟩
    have := hc g rfl i _ (cellsY_at zs i hi)
    rwa [addr_add] at this
set_option maxRecDepth 100000 in
theorem run_app_bytes (w : World) (g : Nat) (b0 : Nat) (h0 : b0 < 256) (hb : Box w g 5 #[.int .u8 (b0 : Int)]) (A : Option Addr) (m c : Nat) (zs : List Nat) (hl : zs.length = m) (hs : ByB w w.heap.size A zs) (hm : m ≤ 1048576) (ty : TypeId) :
    ∃ A' cap w', (Builtin.append_ #[22, 22] ty #[.slice (some ⟨g, 0, none⟩) 1 1, .slice A m c]).run Try.prog w = .ok (.slice A' (1 + m) cap) w' ∧ Btw g (g + 1) w w' ∧ ByB w' w'.heap.size A' (b0 :: zs) := by
  obtain ⟨i, hi, hz, hsz, hby⟩ := infoUx
  have hz0 : ∀ i, i < (b0 :: zs).length → (b0 :: zs).getD i 0 < 256 := fun i hi => by
    cases i with
    | zero => exact h0
    | succ i => exact hs.lt i (by simpa using hi)
  have hown : w.ownsRow g 5 1 (.slice (some ⟨g, 0, none⟩) 1 1) 1 [.int .u8 (b0 : Int)] := ⟨rfl, .inr ⟨g, 1, #[.int .u8 (b0 : Int)], rfl, Nat.le_refl _, hb, Nat.le_refl _, by unfold maxLen; omega, rfl, rfl⟩⟩
  rcases Nat.eq_zero_or_pos m with rfl | hm0
  · obtain rfl := List.eq_nil_of_length_eq_zero hl
    refine ⟨some ⟨g, 0, none⟩, 1, w, ?_, Btw.refl _ _ _, ?_⟩
    · cases A <;> simp [Builtin.append_, run_underlying Try.underlying22, sizeOf, typeInfo, hi, Builtin.lenOf, Builtin.firstCells, storeCells, loadCells, loadCellsFrom]
    · obtain ⟨A', cap, hv, hy⟩ := byB_of_owns (n := 1) (zs := [b0]) hown (by omega) hz0
      injection hv with hv _ _
      rw [hv]; exact hy
  · obtain ⟨ad, rfl, hc⟩ := hs.src (by omega)
    obtain ⟨v', w', hr, ho, hg, _⟩ := run_append_own (P := Try.prog) w g 22 ty 5 i (.int .u8 0) 1 1 Try.underlying22 hi hz hsz hby rfl (by omega) _ 1 _ hown ad m c (cellsY zs) (by rw [cellsY_len]; omega) hc (fun u hu => by obtain ⟨z, _, rfl⟩ := List.mem_map.1 hu; rfl) (by unfold maxLen; omega) (by omega) (Nat.le_of_lt hb.lt)
    obtain ⟨A', cap, rfl, hy⟩ := byB_of_owns (n := 1 + m) (zs := b0 :: zs) ho (by omega) hz0
    exact ⟨A', cap, w', hr, ⟨hg.os, hg.tape, hg.output, hg.size, fun k hk ho => hg.block k hk (fun e => by simp [Value.ownBlock] at e; omega)⟩, hy⟩
set_option maxRecDepth 100000 in
theorem step_app_bytes {ops : Array Oper} {o : Oper} {a : Act} {w : World} {K : Act → World → Prop} {Q : Exit → Act → World → Prop} {E : Prop} (hgd : o.guard = none) (s x : Operand)
    (ho : o.op = .call { callee := .builtin .append, args := #[s, x], argTypes := #[22, 22] }) (g b0 : Nat) (hs : a.eval s = .slice (some ⟨g, 0, none⟩) 1 1) (A : Option Addr) (m c : Nat) (hx : a.eval x = .slice A m c)
    (h0 : b0 < 256) (hb : Box w g 5 #[.int .u8 (b0 : Int)]) (zs : List Nat) (hl : zs.length = m) (hsr : ByB w w.heap.size A zs) (hm : m ≤ 1048576)
    (hK : ∀ A' cap w', Btw g (g + 1) w w' → Hid (ByB w' w'.heap.size A' (b0 :: zs)) → K (a.put o.dst (.slice A' (1 + m) cap)) w') :
    if Region.wanted o (yielded ops a.tmps) = true then Oper.wp Try.prog o a w K Q else E := by
  have hw : Region.wanted o (yielded ops a.tmps) = true := by simp [Region.wanted, hgd]
  rw [if_pos hw]
  obtain ⟨A', cap, w', hr, h2, h3⟩ := run_app_bytes w g b0 h0 hb A m c zs hl hsr hm o.type
  unfold Oper.wp execOp
  simp only [ho, resolve, invoke, builtin, Sem.run_bind, Sem.run_pure, Result.andThen_ok, List.map_toArray, List.map_cons, List.map_nil, hs, hx, hr]
  exact hK A' cap w' h2 (Lib.hid h3)

/-- A variable that holds a cycle. -/
def HasCyc (W : World) (z : Value) (wx : World) : Prop :=
  ∃ bc k v, z = .pointer (some ⟨bc, 0, none⟩) ∧ (k < 256 ∧ v < 256) ∧ Hid (Box wx bc 29 #[.int .i64 ((k : Nat) : Int), .int .i64 ((v : Nat) : Int)]) ∧ Below W.heap.size W wx
theorem cyc_stored {wx : World} {bc k v : Nat} (h : Box wx bc 29 #[.int .i64 0, .int .i64 0]) : Box ((wx.setCell ⟨bc, 0, none⟩ (.int .i64 (k : Int))).setCell ⟨bc, 1, none⟩ (.int .i64 (v : Int))) bc 29 #[.int .i64 (k : Int), .int .i64 (v : Int)] :=
  (h.set 0 (.int .i64 (k : Int))).set 1 (.int .i64 (v : Int))
theorem below_set2c {w0 w : World} {b : Nat} (h : Below w0.heap.size w0 w) (hb : w0.heap.size ≤ b) (u v : Value) : Below w0.heap.size w0 ((w.setCell ⟨b, 0, none⟩ u).setCell ⟨b, 1, none⟩ v) := (h.setCell (p := ⟨b, 0, none⟩) hb u).setCell (p := ⟨b, 1, none⟩) hb v

/-- A flash in a variable, its rows of their own from lo on. -/
structure FV (lo D : Nat) (A : Option Addr) (c : Nat) (C : Option Addr) (d : Nat) (st : Int) (zs : List Int) (gs : List Bool) (w : World) : Prop where
  x : Box w D 26 #[.slice A 256 c, .slice C 16 d, .int .i64 st]
  s : OwnI w lo w.heap.size A zs
  r : OwnB w lo w.heap.size C gs
theorem FV.step {lo D : Nat} {A : Option Addr} {c : Nat} {C : Option Addr} {d : Nat} {st : Int} {zs : List Int} {gs : List Bool} {w w' : World} (h : FV lo D A c C d st zs gs w) (hb : Below w.heap.size w w') : FV lo D A c C d st zs gs w' :=
  ⟨h.x.step hb, (h.s.btw (Btw.of_below hb 0 0) (.inr (Nat.zero_le _))).wideB (Nat.le_refl _) hb.size, (h.r.btw (Btw.of_below hb 0 0) (.inr (Nat.zero_le _))).wide (Nat.le_refl _) hb.size⟩
theorem FV.new {lo : Nat} {A : Option Addr} {c : Nat} {C : Option Addr} {d : Nat} {st : Int} {zs : List Int} {gs : List Bool} {w : World} (s : OwnI w lo w.heap.size A zs) (r : OwnB w lo w.heap.size C gs) : FV lo w.heap.size A c C d st zs gs (w.alloc (.cells #[.slice A 256 c, .slice C 16 d, .int .i64 st] 26)) :=
  ⟨Box.new _ _ _, (s.btw (Btw.of_below (alloc_below _ _) 0 0) (.inr (Nat.zero_le _))).wideB (Nat.le_refl _) (alloc_below _ _).size, (r.btw (Btw.of_below (alloc_below _ _) 0 0) (.inr (Nat.zero_le _))).wide (Nat.le_refl _) (alloc_below _ _).size⟩

set_option maxRecDepth 100000 in
set_option maxHeartbeats 16000000 in
theorem walkCycle (A : Option Addr) (n c : Nat) (zs : List Nat) (A' : Option Addr) (n' c' : Nat) (zs' : List Nat) (w : World) (hl : zs.length = n) (hl' : zs'.length = n') (hn : n ≤ maxLen) (_hn' : n' ≤ maxLen) (h : ByB w w.heap.size A zs) (h' : ByB w w.heap.size A' zs') :
    Calls Try.prog 3 #[.slice A n c, .slice A' n' c'] w fun e w' => e = .returned (.bool true) ∧ Below w.heap.size w w' := by
  by_cases hle : n ≤ 1048576
  · by_cases hle' : n' ≤ 1048576
    · have i1 : ¬ (1048576 : Int) < (n : Int) := by omega
      have i2 : ¬ (1048576 : Int) < (n' : Int) := by omega
      have HD := Lib.hid (flashDrawn A n c zs w hn hl h)
      have HC := Lib.hid (fun W (_ : Below w.heap.size w W) A4 c4 (b0 : Nat) st (hy : ByB W W.heap.size A4 (b0 :: zs')) => cycleOf A4 (1 + n') c4 (b0 :: zs') st W (by unfold maxLen; omega) (by rw [List.length_cons, hl']; omega) hy)
      have HSr := Lib.hid (fun W (hb : Below w.heap.size w W) => h'.step hb)
      have HL := Lib.hid hl'
      clear hl hl' hn h h'
      go_enter Try.func3, Try.ntmps3
      go_wp2_with fail
      refine HD.out.mono ?_
      rintro e w1 ⟨z1, g1, s1, A1, c1, C1, d1, O1, rfl, S1, R1, B1⟩
      have F2 := Lib.hid (FV.new (c := c1) (d := d1) (st := s1) S1.out R1.out)
      have hb2 := bt B1.out (alloc_below w1 (.cells #[.slice A1 256 c1, .slice C1 16 d1, .int .i64 s1] 26))
      have hsD : w.heap.size ≤ w1.heap.size := B1.out.size
      clear S1 R1 B1 HD
      go_wp2
      generalize w1.alloc (.cells #[.slice A1 256 c1, .slice C1 16 d1, .int .i64 s1] 26) = w2 at F2 hb2 ⊢
      obtain ⟨D, hD⟩ : ∃ D, D = w1.heap.size := ⟨_, rfl⟩
      rw [← hD] at F2 hsD ⊢
      clear hD w1
      go_loopw [6] (fun i wr => ∃ j : Nat, j ≤ 4 ∧ i = .int .i64 j ∧ Below w.heap.size w wr ∧ ∃ A c C d st zs gs, Hid (okFlash zs gs st = true) ∧ Hid (FV w.heap.size D A c C d st zs gs wr)) (fun i _ => 4 - (intOf i).toNat)
      case atStart => exact ⟨0, by omega, rfl, hb2, _, _, _, _, _, _, _, O1, F2⟩
      case round =>
        clear hb2 F2 O1
        obtain ⟨j, hj, rfl, hbw, Af, cf, Cf, df, st, zf, gf, HO, HF⟩ := hrel
        by_cases hlt : j < 4
        · have hi : (j : Int) < 4 := by omega
          have hwr := wrap8 (j : Int) (by omega) (by omega)
          have hmd : (j : Int) % 256 = j := by omega
          have HK : Hid (∀ W, Below wr.heap.size wr W → W.cell? ⟨D, 2, none⟩ = some (.int .i64 st)) := Lib.hid (fun W hb => (HF.out.x.step hb).cell 2 rfl)
          have hb0 : j < 256 := by omega
          have h6 : Below wr.heap.size wr wr.drew := (Below.refl _ _).drew
          have h7 : ∀ o, Below wr.heap.size wr (wr.alloc o).drew := fun o => (alloc_below wr o).drew
          have h8 : ∀ o o', Below wr.heap.size wr ((wr.alloc o).alloc o').drew := fun o o' => (bt (alloc_below wr o) (alloc_below _ o')).drew
          go_wp2
          go_cut [7] (fun z wx => HasCyc wr z wx)
          case first =>
            go_region_held3 (fun W => W.cell? ⟨D, 2, none⟩ = some (.int .i64 st))
              (first | exact HK.out _ h6 | exact HK.out _ (h7 _) | exact HK.out _ (h8 _ _) | exact HK.out _ ka | exact HK.out _ (bt ka (alloc_below _ _)) | exact HK.out _ kb | exact HK.out _ (bt kb (alloc_below _ _)) | exact HK.out _ (below_set2c kb (Nat.le_refl _) _ _) | exact HK.out _ (below_set2c kb (Nat.le_succ _) _ _) | exact HK.out _ (below_set2c kb ka.size _ _))
              (first
                | (go_at_call 14; go_fit (HC.out (w4.alloc (.cells #[.int .i64 0, .int .i64 0] 29)) (bt hbw (bt ka (alloc_below _ _))) A4 c4 j st (Y4.out.step (alloc_below _ _))); rintro e w5 ⟨kk, vv, rfl, hkv, hb5⟩; have kb := bt (bt ka (alloc_below _ _)) hb5; have zb := Lib.hid ((Box.new w4 29 #[.int .i64 0, .int .i64 0]).step hb5); have y0 := zb.out.cell 0 rfl; have y1 := zb.out.cell 1 rfl; have y2 := zb.out.frozen 0; have y3 := zb.out.frozen 1)
                | (go_at_call 14; go_fit (HC.out w4 (bt hbw ka) A4 c4 j st Y4.out); rintro e w5 ⟨kk, vv, rfl, hkv, hb5⟩; have kb := bt ka hb5; first | (have zb := Lib.hid (za.out.step hb5); have y0 := zb.out.cell 0 rfl; have y1 := zb.out.cell 1 rfl; have y2 := zb.out.frozen 0; have y3 := zb.out.frozen 1) | skip)
                | (refine step_app_bytes rfl (.tmp 33) (.tmp 34) rfl (wr.heap.size + 1) j ?_ A' n' c' ?_ hb0 ?_ zs' HL.out ?_ (by omega) ?_; simp [Act.eval]; simp [Act.eval]; exact (show Box ((wr.alloc (.cells #[.int .i64 0, .int .i64 0] 29)).alloc (.cells #[.int .u8 (j : Int)] 5)).drew (wr.heap.size + 1) 5 #[.int .u8 (j : Int)] from by have := Box.new (wr.alloc (.cells #[.int .i64 0, .int .i64 0] 29)) 5 #[.int .u8 (j : Int)]; rw [World.size_alloc] at this; exact this); exact HSr.out _ (bt hbw (h8 (.cells #[.int .i64 0, .int .i64 0] 29) (.cells #[.int .u8 (j : Int)] 5))); intro A4 c4 w4 hb4 Y4; have ka : Below wr.heap.size wr w4 := (h8 (.cells #[.int .i64 0, .int .i64 0] 29) (.cells #[.int .u8 (j : Int)] 5)).trans ((hb4.below (by simp <;> omega)).mono (by omega)); have za := Lib.hid (Box.btw ((Box.new wr 29 #[.int .i64 0, .int .i64 0]).alloc (.cells #[.int .u8 (j : Int)] 5)).drew hb4 (.inl (by omega))); clear hb4)
                | (refine step_app_bytes rfl (.tmp 33) (.tmp 34) rfl (wr.heap.size) j ?_ A' n' c' ?_ hb0 ?_ zs' HL.out ?_ (by omega) ?_; simp [Act.eval]; simp [Act.eval]; exact (show Box ((wr.alloc (.cells #[.int .u8 (j : Int)] 5)).alloc (.cells #[.int .i64 0, .int .i64 0] 29)).drew wr.heap.size 5 #[.int .u8 (j : Int)] from (Box.new _ _ _).alloc _); exact HSr.out _ (bt hbw (h8 (.cells #[.int .u8 (j : Int)] 5) (.cells #[.int .i64 0, .int .i64 0] 29))); intro A4 c4 w4 hb4 Y4; have ka : Below wr.heap.size wr w4 := (h8 (.cells #[.int .u8 (j : Int)] 5) (.cells #[.int .i64 0, .int .i64 0] 29)).trans ((hb4.below (by simp <;> omega)).mono (by omega)); have za := Lib.hid (Box.btw (show Box ((wr.alloc (.cells #[.int .u8 (j : Int)] 5)).alloc (.cells #[.int .i64 0, .int .i64 0] 29)).drew (wr.heap.size + 1) 29 #[.int .i64 0, .int .i64 0] from by have := Box.new (wr.alloc (.cells #[.int .u8 (j : Int)] 5)) 29 #[.int .i64 0, .int .i64 0]; rw [World.size_alloc] at this; exact this) hb4 (.inr (by omega))); clear hb4)
                | (refine step_app_bytes rfl (.tmp 33) (.tmp 34) rfl (wr.heap.size) j ?_ A' n' c' ?_ hb0 ?_ zs' HL.out ?_ (by omega) ?_; simp [Act.eval]; simp [Act.eval]; exact (show Box (wr.alloc (.cells #[.int .u8 (j : Int)] 5)).drew wr.heap.size 5 #[.int .u8 (j : Int)] from Box.new _ _ _); exact HSr.out _ (bt hbw (h7 (.cells #[.int .u8 (j : Int)] 5))); intro A4 c4 w4 hb4 Y4; have ka : Below wr.heap.size wr w4 := (h7 (.cells #[.int .u8 (j : Int)] 5)).trans ((hb4.below (by simp <;> omega)).mono (by omega)); skip; clear hb4))
            all_goals (go_wp2_with fail; go_meet)
            all_goals (first
              | exact ⟨_, _, _, rfl, hkv, Lib.hid (cyc_stored zb.out), below_set2c kb (Nat.le_refl _) _ _⟩
              | exact ⟨_, _, _, rfl, hkv, Lib.hid (cyc_stored zb.out), below_set2c kb (Nat.le_succ _) _ _⟩
              | exact ⟨_, _, _, rfl, hkv, Lib.hid (cyc_stored zb.out), below_set2c kb ka.size _ _⟩
              | exact ⟨_, _, _, rfl, hkv, Lib.hid (Box.new _ _ _), bt kb (alloc_below _ _)⟩)
          case rest =>
            obtain ⟨bc, kk, vv, rfl, hkv, HCy, hb3⟩ := hcut
            obtain ⟨w3, hw3⟩ : ∃ w3, w3 = wc := ⟨_, rfl⟩
            rw [← hw3] at HCy hb3 ⊢
            clear hw3 wc hwr hmd HK h6 h7 h8 hb0
            have F3 := HF.out.step hb3
            have hb3' := bt hbw hb3
            have f0 := F3.x.cell 0 rfl
            have f1 := F3.x.cell 1 rfl
            have f2 := F3.x.cell 2 rfl
            have e0 := HCy.out.cell 0 rfl
            have e1 := HCy.out.cell 1 rfl
            have hok := okFlash_len HO.out
            have hR : writeF zf gf st (kk : Int) (vv : Int) = (cycZ zf gf st kk vv, cycG gf st kk, nextS st kk vv, 0) := by
              unfold writeF gate
              rw [HO.out, show (byB (kk : Int) && byB (vv : Int)) = true from by unfold byB; simp; omega]
              rfl
            have hI := fun W (hb : Below w3.heap.size w3 W) => implBusWrite Af Cf 256 cf 16 df st zf gf (kk : Int) (vv : Int) W hok.1 hok.2.1 (by unfold maxLen; omega) (by unfold maxLen; omega) (F3.step hb).s.reads (F3.step hb).r.reads
            have hS := fun W (hb : Below w3.heap.size w3 W) => specBusWrite Af Cf 256 cf 16 df st zf gf (kk : Int) (vv : Int) W hok.1 hok.2.1 (by unfold maxLen; omega) (by unfold maxLen; omega) (F3.step hb).s.reads (F3.step hb).r.reads
            rw [hR] at hI hS
            have HI := Lib.hid hI
            have HS := Lib.hid hS
            have HO4 := Lib.hid (ok_cycle HO.out kk vv hkv.2)
            have HBl := Lib.hid (fun b (hb : b < 16) => cyc_block zf gf st kk vv b hok.1 hok.2.2.2 hb)
            have HGu := Lib.hid (fun b (hb : b < 16) (hg : gf.getD b false = true) => cyc_guard gf st kk b hg (by rw [hok.2.1]; exact hb))
            generalize cycZ zf gf st kk vv = zx at HI HS HO4 HBl
            generalize cycG gf st kk = gx at HI HS HO4 HGu
            generalize nextS st kk vv = sx at HI HS HO4
            have HF3 := Lib.hid F3
            have HB3 := Lib.hid hb3'
            clear F3 hok hR hI hS hb3 hb3' HF hbw
            go_wp2_with fail
            refine (HI.out w3 (Below.refl _ _)).mono ?_
            rintro e w4 ⟨A4, n4, c4, C4, m4, d4, rfl, L4, M4, S4, R4, hb4⟩
            obtain rfl : n4 = 256 := by have := L4.out; have := (okFlash_len HO4.out).1; omega
            obtain rfl : m4 = 16 := by have := M4.out; have := (okFlash_len HO4.out).2.1; omega
            have hlo3 : w.heap.size ≤ w3.heap.size := HB3.out.size
            have HX5 : Hid (FV w.heap.size w4.heap.size A4 c4 C4 d4 sx zx gx (w4.alloc (.cells #[.slice A4 256 c4, .slice C4 16 d4, .int .i64 sx] 26))) := Lib.hid (FV.new (S4.out.wideB hlo3 (Nat.le_refl _)) (R4.out.wide hlo3 (Nat.le_refl _)))
            have hb5 := bt hb4 (alloc_below w4 (.cells #[.slice A4 256 c4, .slice C4 16 d4, .int .i64 sx] 26))
            have F5 := HF3.out.step hb5
            have HC5 := HCy.out.step hb5
            obtain ⟨w5, hw5⟩ : ∃ w5, w5 = w4.alloc (.cells #[.slice A4 256 c4, .slice C4 16 d4, .int .i64 sx] 26) := ⟨_, rfl⟩
            rw [← hw5] at HX5 hb5 F5 HC5
            clear f0 f1 f2 e0 e1
            have f0 := F5.x.cell 0 rfl
            have f1 := F5.x.cell 1 rfl
            have f2 := F5.x.cell 2 rfl
            have e0 := HC5.cell 0 rfl
            have e1 := HC5.cell 1 rfl
            rw [hw5] at f0 f1 f2 e0 e1
            have HW5 := Lib.hid hw5
            have HB5 := Lib.hid hb5
            have HF5 := Lib.hid F5
            clear L4 M4 S4 R4 hb4 F5 HC5 hb5 hw5 HCy HI
            go_wp2_with fail
            rw [← HW5.out]
            refine (HS.out w5 HB5.out).mono ?_
            rintro e w6 ⟨A6, n6, c6, C6, m6, d6, rfl, L6, M6, S6, R6, hb6⟩
            obtain rfl : n6 = 256 := by have := L6.out; have := (okFlash_len HO4.out).1; omega
            obtain rfl : m6 = 16 := by have := M6.out; have := (okFlash_len HO4.out).2.1; omega
            have hlo5 : w.heap.size ≤ w5.heap.size := Nat.le_trans hlo3 HB5.out.size
            have HY7 : Hid (FV w.heap.size w6.heap.size A6 c6 C6 d6 sx zx gx (w6.alloc (.cells #[.slice A6 256 c6, .slice C6 16 d6, .int .i64 sx] 26))) := Lib.hid (FV.new (S6.out.wideB hlo5 (Nat.le_refl _)) (R6.out.wide hlo5 (Nat.le_refl _)))
            have hb7 := bt hb6 (alloc_below w6 (.cells #[.slice A6 256 c6, .slice C6 16 d6, .int .i64 sx] 26))
            obtain ⟨w7, hw7⟩ : ∃ w7, w7 = w6.alloc (.cells #[.slice A6 256 c6, .slice C6 16 d6, .int .i64 sx] 26) := ⟨_, rfl⟩
            rw [← hw7] at HY7 hb7
            have HX7 := Lib.hid (HX5.out.step hb7)
            have HF7 := Lib.hid (HF5.out.step hb7)
            have HB7 := Lib.hid (bt (bt HB3.out HB5.out) hb7)
            obtain ⟨X, hX⟩ : ∃ X, X = w4.heap.size := ⟨_, rfl⟩
            rw [← hX] at HX7 ⊢
            clear f0 f1 f2 e0 e1
            have x0 := HX7.out.x.cell 0 rfl
            have x1 := HX7.out.x.cell 1 rfl
            have x2 := HX7.out.x.cell 2 rfl
            rw [hw7] at x0 x1 x2
            have HW7 := Lib.hid hw7
            have HSa := Lib.hid (lawSameFlash A4 A6 C4 C6 256 256 16 16 c4 c6 d4 d6 sx zx gx w7 (okFlash_len HO4.out).1 (okFlash_len HO4.out).1 (okFlash_len HO4.out).2.1 (okFlash_len HO4.out).2.1 (by unfold maxLen; omega) (by unfold maxLen; omega) HX7.out.s.reads HY7.out.s.reads HX7.out.r.reads HY7.out.r.reads)
            have HOk := Lib.hid (fun W (hb : Below w7.heap.size w7 W) => implFlashOK A4 C4 256 c4 16 d4 sx zx gx W (okFlash_len HO4.out).1 (okFlash_len HO4.out).2.1 (by unfold maxLen; omega) (by unfold maxLen; omega) (HX7.out.step hb).s.reads)
            rw [HO4.out] at HOk
            clear L6 M6 S6 R6 hb6 hb7 hw7 hX HS HX5 HF5 HB5 HB3 HF3 HW5 HY7 hlo3 hlo5
            go_wp2_with fail
            rw [← HW7.out]
            refine HSa.out.mono ?_
            rintro e w8 ⟨rfl, hb8⟩
            clear x0 x1 x2 HW7
            have HX8 := Lib.hid (HX7.out.step hb8)
            have x0 := HX8.out.x.cell 0 rfl
            have x1 := HX8.out.x.cell 1 rfl
            have x2 := HX8.out.x.cell 2 rfl
            go_wp2_with fail
            refine (HOk.out w8 hb8).mono ?_
            rintro e w9 ⟨rfl, hb9⟩
            have k9 := bt hb8 hb9
            have HX9 := Lib.hid (HX7.out.step k9)
            have HF9 := Lib.hid (HF7.out.step k9)
            have HB9 := Lib.hid (bt HB7.out k9)
            clear x0 x1 x2 HX8 HX7 HF7 HB7 hb8 hb9 k9 HSa HOk
            go_wp2
            go_loopw [12] (fun i wq => ∃ b : Nat, b ≤ 16 ∧ i = .int .i64 b ∧ Below w9.heap.size w9 wq) (fun i _ => 16 - (intOf i).toNat)
            case atStart => exact ⟨0, by omega, rfl, Below.refl _ _⟩
            case round =>
              obtain ⟨b, hb, rfl, hbq⟩ := hrel
              by_cases hlb : b < 16
              · have hib : (b : Int) < 16 := by omega
                go_wp2
                go_loopw [13, 14, 15, 16] (fun e f s i wz => ∃ m : Nat, m ≤ 16 ∧ e = .bool (pre (eraP zx) (b * 16) m) ∧ f = .bool (pre (felP zx zf) (b * 16) m) ∧ s = .bool (pre (samP zx zf) (b * 16) m) ∧ i = .int .i64 ((b * 16 + m : Nat) : Int) ∧ Below w9.heap.size w9 wz) (fun _ _ _ i _ => 16 + b * 16 - (intOf i).toNat)
                case atStart => exact ⟨0, by omega, rfl, rfl, rfl, by congr 1, hbq⟩
                case round =>
                  clear hbq
                  obtain ⟨m, hm, rfl, rfl, rfl, rfl, hbz⟩ := hrel
                  by_cases hlm : m < 16
                  · obtain ⟨t, ht⟩ : ∃ t, t = b * 16 + m := ⟨_, rfl⟩
                    have HXz := HX9.out.step hbz
                    have HFz := HF9.out.step hbz
                    have hlx : t < zx.length := by have := (okFlash_len HO4.out).1; omega
                    have hlf : t < zf.length := by have := (okFlash_len HO.out).1; omega
                    obtain ⟨x, hx, hx2⟩ := at256 (okFlash_len HO4.out).2.2.2 t hlx
                    obtain ⟨z, hz, hz2⟩ := at256 (okFlash_len HO.out).2.2.2 t hlf
                    have HE : Hid (pre (eraP zx) (b * 16) (m + 1) = (pre (eraP zx) (b * 16) m && ((x : Int) == 255))) := Lib.hid (by rw [pre, ← ht, eraP, hx])
                    have HL2 : Hid (pre (felP zx zf) (b * 16) (m + 1) = (pre (felP zx zf) (b * 16) m && (((x &&& z : Nat) : Int) == (x : Int)))) := Lib.hid (by rw [pre, ← ht, felP, hx, hz]; rfl)
                    have HS2 : Hid (pre (samP zx zf) (b * 16) (m + 1) = (pre (samP zx zf) (b * 16) m && ((x : Int) == (z : Int)))) := Lib.hid (by rw [pre, ← ht, samP, hx, hz])
                    have hand := and_i64 x z hx2 hz2
                    obtain ⟨ba, oa, hA4, hca⟩ := HXz.s.reads t hlx
                    obtain ⟨bf, off, hAf, hcf⟩ := HFz.s.reads t hlf
                    rw [hx] at hca
                    rw [hz] at hcf
                    have x0 : wr.cell? ⟨X, 0, none⟩ = some (.slice (some ⟨ba, oa, none⟩) 256 c4) := by have q : wr.cell? ⟨X, 0, none⟩ = some (.slice A4 256 c4) := HXz.x.cell 0 rfl; rw [hA4] at q; exact q
                    have f0 : wr.cell? ⟨D, 0, none⟩ = some (.slice (some ⟨bf, off, none⟩) 256 cf) := by have q : wr.cell? ⟨D, 0, none⟩ = some (.slice Af 256 cf) := HFz.x.cell 0 rfl; rw [hAf] at q; exact q
                    have hti : (t : Int) < 256 := by omega
                    have hcond : (t : Int) < ((b : Int) + 1) * 16 := by omega
                    rw [← ht]
                    have HT := Lib.hid ht
                    have HB := Lib.hid hbz
                    clear ht HXz HFz hlx hlf hx hz hA4 hAf hbz
                    generalize pre (eraP zx) (b * 16) m = pe at HE ⊢
                    generalize pre (felP zx zf) (b * 16) m = pf at HL2 ⊢
                    generalize pre (samP zx zf) (b * 16) m = ps at HS2 ⊢
                    cases pe <;> cases pf <;> cases ps <;> (
                      go_wp2
                      go_quiet (fail)
                      go_wp2
                      go_quiet (fail)
                      go_wp2
                      go_roundw
                      case rel => exact ⟨m + 1, by omega, by rw [HE.out]; rfl, by rw [HL2.out]; rfl, by rw [HS2.out]; rfl, by have := HT.out; congr 1; omega, below_drewN HB.out _⟩
                      case measure => have := HT.out; simp [intOf]; omega)
                  · obtain rfl : m = 16 := by omega
                    have HXz := HX9.out.step hbz
                    have HFz := HF9.out.step hbz
                    obtain ⟨bg, og, hC4, hcg⟩ := HFz.r.reads b (by rw [(okFlash_len HO.out).2.1]; exact hlb)
                    obtain ⟨bx, ox, hCx, hcx⟩ := HXz.r.reads b (by rw [(okFlash_len HO4.out).2.1]; exact hlb)
                    have x1 : wr.cell? ⟨X, 1, none⟩ = some (.slice (some ⟨bx, ox, none⟩) 16 d4) := by have q : wr.cell? ⟨X, 1, none⟩ = some (.slice C4 16 d4) := HXz.x.cell 1 rfl; rw [hCx] at q; exact q
                    have f1 : wr.cell? ⟨D, 1, none⟩ = some (.slice (some ⟨bg, og, none⟩) 16 df) := by have q : wr.cell? ⟨D, 1, none⟩ = some (.slice Cf 16 df) := HFz.x.cell 1 rfl; rw [hC4] at q; exact q
                    have hcase : (gf.getD b false = true → pre (samP zx zf) (b * 16) 16 = true ∧ gx.getD b false = true) ∧ (pre (eraP zx) (b * 16) 16 = true ∨ pre (felP zx zf) (b * 16) 16 = true) := by
                      rcases HBl.out b hlb with ⟨q1, q2⟩ | ⟨q1, q2⟩
                      · exact ⟨fun hg => ⟨pre_all (q2 hg), HGu.out b hlb hg⟩, .inr (pre_all q1)⟩
                      · exact ⟨fun hg => (by rw [q1] at hg; cases hg), .inl (pre_all q2)⟩
                    have hcond : ¬ ((b * 16 + 16 : Nat) : Int) < ((b : Int) + 1) * 16 := by omega
                    have HB := Lib.hid hbz
                    clear HXz HFz hC4 hCx hbz
                    generalize pre (eraP zx) (b * 16) 16 = pe at hcase ⊢
                    generalize pre (felP zx zf) (b * 16) 16 = pf at hcase ⊢
                    generalize pre (samP zx zf) (b * 16) 16 = ps at hcase ⊢
                    generalize gf.getD b false = gv at hcg hcase
                    generalize gx.getD b false = gq at hcx hcase
                    obtain ⟨hc1, hc2⟩ := hcase
                    cases gv
                    · clear hc1
                      cases pe
                      · obtain rfl : pf = true := by simpa using hc2
                        clear hc2
                        go_wp2
                        go_roundw
                        case rel => exact ⟨b + 1, by omega, by go_num, HB.out⟩
                        case measure => simp [intOf]; omega
                      · clear hc2
                        go_wp2
                        go_roundw
                        case rel => exact ⟨b + 1, by omega, by go_num, HB.out⟩
                        case measure => simp [intOf]; omega
                    · obtain ⟨rfl, rfl⟩ := hc1 rfl
                      clear hc1
                      cases pe
                      · obtain rfl : pf = true := by simpa using hc2
                        clear hc2
                        go_wp2
                        go_roundw
                        case rel => exact ⟨b + 1, by omega, by go_num, HB.out⟩
                        case measure => simp [intOf]; omega
                      · clear hc2
                        go_wp2
                        go_roundw
                        case rel => exact ⟨b + 1, by omega, by go_num, HB.out⟩
                        case measure => simp [intOf]; omega
              · obtain rfl : b = 16 := by omega
                have HXz := HX9.out.step hbq
                have HFz := HF9.out.step hbq
                have x0 := HXz.x.cell 0 rfl
                have x1 := HXz.x.cell 1 rfl
                have x2 := HXz.x.cell 2 rfl
                have f0 := HFz.x.cell 0 rfl
                have f1 := HFz.x.cell 1 rfl
                have f2 := HFz.x.cell 2 rfl
                have f0z := HFz.x.frozen 0
                have f1z := HFz.x.frozen 1
                have f2z := HFz.x.frozen 2
                have HFn : Hid (FV w.heap.size D A4 c4 C4 d4 sx zx gx (((wr.setCell ⟨D, 0, none⟩ (.slice A4 256 c4)).setCell ⟨D, 1, none⟩ (.slice C4 16 d4)).setCell ⟨D, 2, none⟩ (.int .i64 sx))) := Lib.hid ⟨HFz.x.flash3 rfl _ _ _, by rw [size3]; exact HXz.s.far3 HFz.x _ _ _, by rw [size3]; exact HXz.r.far3 HFz.x _ _ _⟩
                have HBn := Lib.hid (below3 (bt HB9.out hbq) hsD (.slice A4 256 c4) (.slice C4 16 d4) (.int .i64 sx))
                clear HXz HFz hbq
                go_wp2
                go_roundw
                case rel => exact ⟨j + 1, by omega, by go_num, HBn.out, _, _, _, _, _, _, _, HO4, HFn⟩
                case measure => simp [intOf]; omega
        · obtain rfl : j = 4 := by omega
          go_wp2
          go_ret
          exact ⟨rfl, hbw⟩
    · have i2 : (1048576 : Int) < (n' : Int) := by omega
      have i1 : ¬ (1048576 : Int) < (n : Int) := by omega
      go_enter Try.func3, Try.ntmps3
      go_wp2
      go_ret
      exact ⟨rfl, Below.refl _ _⟩
  · have i1 : (1048576 : Int) < (n : Int) := by omega
    go_enter Try.func3, Try.ntmps3
    go_wp2
    go_ret
    exact ⟨rfl, Below.refl _ _⟩
end Go.Proofs.Ytapopagphoiemaa
