/- A processor and a memory as plain data: pushing, pulling, calling, returning, the flags, what an instruction does. -/
import Derived.Test.YtieljgoodmoacaaMemMath
import Derived.Test.YtieljgoodmoacaaBusRead
import Derived.Test.YtieljgoodmoacaaOpDec
namespace Go.Proofs.Ytieljgoodmoacaa
open Go.RowKit

structure MD where
  r : List Int
  i : List Int
  z : List Int
  g : List Bool
  s : Int
structure CD where
  pc : Int
  sp : Int
  bank : Int
  level : Int
  zero : Bool
  carry : Bool
  on : Bool
  halt : Bool
  regs : List Int

def MD.ok (m : MD) : Bool := okMem m.r m.i m.z m.g m.s
def CD.ok (d : CD) : Bool := rngB d.pc 0 4095 && (rngB d.sp 0 255 && (rngB d.bank 0 3 && (rngB d.level 0 7 && (decide (d.regs.length = 16) && d.regs.all byB))))
def MD.get (m : MD) (a : Int) : Int := getV m.r m.i m.z m.g readV m.s a
def MD.put (m : MD) (a v : Int) : MD := ⟨putR m.r a v, putI m.i a v, putZ m.z m.g m.s a v, putG m.g m.s a, putS m.s a v⟩
def CD.reg (d : CD) (k : Int) : Int := d.regs.getD (4 * d.bank + k).toNat 0
def CD.set (d : CD) (k v : Int) : CD := { d with regs := d.regs.set (4 * d.bank + k).toNat v }
def CD.flags (d : CD) : Int := d.level + 8 * d.bank + 32 * bitI d.zero + 64 * bitI d.carry + 128 * bitI d.on
def CD.toFlags (d : CD) (v : Int) : CD := { d with level := v % 8, bank := v / 8 % 4, zero := decide (v / 32 % 2 = 1), carry := decide (v / 64 % 2 = 1), on := decide (v / 128 % 2 = 1) }
def CD.down (d : CD) : CD := { d with sp := (d.sp + 255) % 256 }
def CD.up (d : CD) : CD := { d with sp := (d.sp + 1) % 256 }
def CD.at (d : CD) (pc : Int) : CD := { d with pc := pc }
/-- Calling: the higher byte, then the lower one. -/
def callD (d : CD) (pc : Int) : CD := d.down.down.at pc
def callM (d : CD) (m : MD) : MD := (m.put d.sp (d.pc / 256)).put ((d.sp + 255) % 256) (d.pc % 256)
/-- Returning. -/
def backD (d : CD) (m : MD) : CD := d.up.up.at ((m.get ((d.sp + 1) % 256) + 256 * m.get (((d.sp + 1) % 256 + 1) % 256)) % 4096)
def retiD (d : CD) (m : MD) : CD := (backD d.up m).toFlags (m.get ((d.sp + 1) % 256))
/-- An interrupt. -/
def enterD (d : CD) (line level : Int) : CD := { (callD { d with halt := false } (704 + 4 * line)).down with level := level }
def enterM (d : CD) (m : MD) : MD := (callM d m).put (((d.sp + 255) % 256 + 255) % 256) d.flags
/-- Register 0, or that of inc and dec, and the flags. -/
def CD.res (d : CD) (k v : Int) : CD := { d.set k (v % 256) with zero := decide (v % 256 = 0) }
def andI (a b : Int) : Int := ((a.toNat &&& b.toNat : Nat) : Int)
def orI (a b : Int) : Int := ((a.toNat ||| b.toNat : Nat) : Int)
def xorI (a b : Int) : Int := ((a.toNat ^^^ b.toNat : Nat) : Int)
def aluV (op a b : Int) : Int := if op = 10 then a + b else if op = 11 then a - b else if op = 12 then andI a b else if op = 13 then orI a b else xorI a b
def CD.comb (d : CD) (v : Int) : CD := { d.res 0 v with carry := !byB v }
/-- What an instruction does to the processor, to the memory, and its swi. -/
def execD (d : CD) (m : MD) (op reg arg : Int) : CD :=
  if op = 1 then { d with halt := true } else if op = 2 then retiD d m else if op = 3 then { d with on := true } else if op = 4 then { d with on := false }
  else if op = 5 then d.set reg arg else if op = 6 then d.res reg (m.get arg) else if op = 8 then d.res reg (d.reg reg + 1) else if op = 9 then d.res reg (d.reg reg - 1)
  else if 10 ≤ op ∧ op ≤ 14 then d.comb (aluV op (d.reg 0) (d.reg reg)) else if op = 15 then d.at arg else if op = 16 then (if d.zero then d.at arg else d) else if op = 17 then (if d.zero then d else d.at arg)
  else if op = 18 then callD d arg else if op = 19 then backD d m else if op = 21 then { d with bank := arg } else if op = 22 then callD d 752 else d
def execM (d : CD) (m : MD) (op reg arg : Int) : MD := if op = 7 then m.put arg (d.reg reg) else if op = 18 ∨ op = 22 then callM d m else m
def execS (op arg : Int) : Int := if op = 20 then arg else -1
def fetchF (d : CD) (m : MD) : Int × Int × Int := decV (m.get d.pc) (m.get ((d.pc + 1) % 4096)) (m.get ((d.pc + 2) % 4096))
def nextD (d : CD) (m : MD) : CD := d.at ((d.pc + lenT (fetchF d m).1) % 4096)
def stepD (d : CD) (m : MD) : CD := if d.halt then d else execD (nextD d m) m (fetchF d m).1 (fetchF d m).2.1 (fetchF d m).2.2
def stepM (d : CD) (m : MD) : MD := if d.halt then m else execM (nextD d m) m (fetchF d m).1 (fetchF d m).2.1 (fetchF d m).2.2
def stepN (d : CD) (m : MD) : Int := if d.halt then 4 else cycT (fetchF d m).1
def stepS (d : CD) (m : MD) : Int := if d.halt then -1 else execS (fetchF d m).1 (fetchF d m).2.2

/-- What is asked of the data. -/
structure CD.Ok (d : CD) : Prop where
  pc : 0 ≤ d.pc ∧ d.pc ≤ 4095
  sp : 0 ≤ d.sp ∧ d.sp ≤ 255
  bank : 0 ≤ d.bank ∧ d.bank ≤ 3
  level : 0 ≤ d.level ∧ d.level ≤ 7
  len : d.regs.length = 16
  regs : ∀ z ∈ d.regs, 0 ≤ z ∧ z ≤ 255
structure MD.Ok (m : MD) : Prop where
  r : m.r.length = 256
  i : m.i.length = 32
  z : m.z.length = 256
  g : m.g.length = 16
  s : 0 ≤ m.s ∧ m.s ≤ 8
  rb : ∀ z ∈ m.r, 0 ≤ z ∧ z ≤ 255
  ib : ∀ z ∈ m.i, 0 ≤ z ∧ z ≤ 255
  zb : ∀ z ∈ m.z, 0 ≤ z ∧ z ≤ 255
theorem byB_iff {v : Int} : byB v = true ↔ 0 ≤ v ∧ v ≤ 255 := by unfold byB; simp
theorem CD.ok_iff {d : CD} : d.ok = true ↔ d.Ok := by
  unfold CD.ok
  constructor
  · intro h
    simp only [Bool.and_eq_true, rngB, decide_eq_true_eq, List.all_eq_true] at h
    exact ⟨h.1, h.2.1, h.2.2.1, h.2.2.2.1, h.2.2.2.2.1, fun z hz => byB_iff.1 (h.2.2.2.2.2 z hz)⟩
  · intro h
    simp only [Bool.and_eq_true, rngB, decide_eq_true_eq, List.all_eq_true]
    exact ⟨h.pc, h.sp, h.bank, h.level, h.len, fun z hz => byB_iff.2 (h.regs z hz)⟩
theorem MD.ok_iff {m : MD} : m.ok = true ↔ m.Ok := by
  unfold MD.ok
  constructor
  · intro h
    obtain ⟨h1, h2, h3, h4, h5⟩ := okMem_len h
    obtain ⟨h6, h7, h8, h9⟩ := okFlash_len h5
    exact ⟨h1, h2, h6, h7, h8, all_bytes h3, all_bytes h4, h9⟩
  · intro h
    exact okMem_mk h.r h.i (List.all_eq_true.2 fun z hz => byB_iff.2 (h.rb z hz)) (List.all_eq_true.2 fun z hz => byB_iff.2 (h.ib z hz)) (okFlash_mk h.z h.g h.s h.zb)

theorem getD_byte {l : List Int} {n : Nat} (h : ∀ z ∈ l, 0 ≤ z ∧ z ≤ 255) (k : Nat) (hn : n = l.length) (hk : k < n) : 0 ≤ l.getD k 0 ∧ l.getD k 0 ≤ 255 := by
  rw [List.getD_eq_getElem?_getD, List.getElem?_eq_getElem (by omega)]
  exact h _ (List.getElem_mem _)
theorem set_byte {l : List Int} (h : ∀ z ∈ l, 0 ≤ z ∧ z ≤ 255) (k : Nat) {v : Int} (hv : 0 ≤ v ∧ v ≤ 255) : ∀ z ∈ l.set k v, 0 ≤ z ∧ z ≤ 255 := fun z hz => by
  rcases List.mem_or_eq_of_mem_set hz with h1 | rfl
  · exact h z h1
  · exact hv
theorem readV_range {zs : List Int} {gs : List Bool} {st : Int} {n : Nat} (hz : ∀ z ∈ zs, 0 ≤ z ∧ z ≤ 255) (hl : zs.length = 256) (hn : n < 256) : 0 ≤ readV zs gs st n ∧ readV zs gs st n ≤ 255 := by
  unfold readV
  split
  · repeat' split
    all_goals omega
  · exact getD_byte hz n hl.symm hn
theorem MD.Ok.get {m : MD} (h : m.Ok) (a : Int) (h0 : 0 ≤ a) (h1 : a ≤ 4095) : 0 ≤ m.get a ∧ m.get a ≤ 255 := by
  obtain ⟨k, rfl⟩ : ∃ k : Nat, a = k := ⟨a.toNat, by omega⟩
  unfold MD.get getV
  rcases reg_ways k (by omega) with ⟨h2, e1, e2⟩ | ⟨h2, h3, e1, e2⟩ | ⟨h2, h3, e1, e2⟩ | ⟨h2, h3, e1, e2⟩
  · rw [e1, e2, if_pos rfl]; exact getD_byte h.rb _ h.r.symm (by omega)
  · rw [e1, e2, if_neg (by omega), if_pos rfl]; exact getD_byte h.ib _ h.i.symm (by omega)
  · rw [e1, e2, if_neg (by omega), if_neg (by omega), if_pos rfl]; exact readV_range h.zb h.z (by omega)
  · rw [e1, if_neg (by omega), if_neg (by omega), if_neg (by omega)]; omega
theorem MD.Ok.put {m : MD} (h : m.Ok) {a v : Int} (_h0 : 0 ≤ a) (_h1 : a ≤ 4095) (hv : 0 ≤ v ∧ v ≤ 255) : (m.put a v).Ok := by
  refine ⟨(putR_len _ _ _).trans h.r, (putI_len _ _ _).trans h.i, (putZ_len _ _ _ _ _).trans h.z, (putG_len _ _ _).trans h.g, ?_, ?_, ?_, ?_⟩
  · show 0 ≤ putS m.s a v ∧ putS m.s a v ≤ 8
    unfold putS; split
    · exact nextS_in _ _ _
    · exact h.s
  · show ∀ z ∈ putR m.r a v, 0 ≤ z ∧ z ≤ 255
    unfold putR; split
    · exact set_byte h.rb _ hv
    · exact h.rb
  · show ∀ z ∈ putI m.i a v, 0 ≤ z ∧ z ≤ 255
    unfold putI; split
    · exact set_byte h.ib _ hv
    · exact h.ib
  · show ∀ z ∈ putZ m.z m.g m.s a v, 0 ≤ z ∧ z ≤ 255
    unfold putZ; split
    · exact cycZ_range h.zb (by omega)
    · exact h.zb
theorem CD.Ok.down {d : CD} (h : d.Ok) : d.down.Ok := ⟨h.pc, by show 0 ≤ (d.sp + 255) % 256 ∧ (d.sp + 255) % 256 ≤ 255; omega, h.bank, h.level, h.len, h.regs⟩
theorem CD.Ok.up {d : CD} (h : d.Ok) : d.up.Ok := ⟨h.pc, by show 0 ≤ (d.sp + 1) % 256 ∧ (d.sp + 1) % 256 ≤ 255; omega, h.bank, h.level, h.len, h.regs⟩
theorem CD.Ok.at {d : CD} (h : d.Ok) {a : Int} (h0 : 0 ≤ a) (h1 : a ≤ 4095) : (d.at a).Ok := ⟨⟨h0, h1⟩, h.sp, h.bank, h.level, h.len, h.regs⟩
theorem CD.Ok.reg {d : CD} (h : d.Ok) {k : Int} (h0 : 0 ≤ k) (h1 : k ≤ 3) : 0 ≤ d.reg k ∧ d.reg k ≤ 255 := by
  have := h.bank
  exact getD_byte h.regs _ h.len.symm (by omega)
theorem CD.Ok.set {d : CD} (h : d.Ok) {k v : Int} (hv : 0 ≤ v ∧ v ≤ 255) : (d.set k v).Ok := ⟨h.pc, h.sp, h.bank, h.level, by simpa [CD.set] using h.len, set_byte h.regs _ hv⟩
theorem CD.Ok.flags {d : CD} (h : d.Ok) : 0 ≤ d.flags ∧ d.flags ≤ 255 := by
  have := h.bank
  have := h.level
  have hb : ∀ b, 0 ≤ bitI b ∧ bitI b ≤ 1 := fun b => by cases b <;> decide
  have := hb d.zero
  have := hb d.carry
  have := hb d.on
  unfold CD.flags
  omega
theorem CD.Ok.toFlags {d : CD} (h : d.Ok) (v : Int) : (d.toFlags v).Ok := ⟨h.pc, h.sp, by show 0 ≤ v / 8 % 4 ∧ v / 8 % 4 ≤ 3; omega, by show 0 ≤ v % 8 ∧ v % 8 ≤ 7; omega, h.len, h.regs⟩
theorem CD.Ok.call {d : CD} (h : d.Ok) {a : Int} (h0 : 0 ≤ a) (h1 : a ≤ 4095) : (callD d a).Ok := h.down.down.at h0 h1
theorem MD.Ok.call {d : CD} {m : MD} (h : d.Ok) (k : m.Ok) : (callM d m).Ok := by
  have := h.pc
  have := h.sp
  exact (k.put (by omega) (by omega) (by omega)).put (by omega) (by omega) (by omega)
theorem CD.Ok.back {d : CD} (h : d.Ok) (m : MD) : (backD d m).Ok := h.up.up.at (by omega) (by omega)
theorem CD.Ok.reti {d : CD} (h : d.Ok) (m : MD) : (retiD d m).Ok := (h.up.back m).toFlags _
theorem CD.Ok.res {d : CD} (h : d.Ok) (k v : Int) : (d.res k v).Ok := by
  have := h.set (k := k) (v := v % 256) (by omega)
  exact ⟨this.pc, this.sp, this.bank, this.level, this.len, this.regs⟩
theorem CD.Ok.comb {d : CD} (h : d.Ok) (v : Int) : (d.comb v).Ok := by
  have := h.res 0 v
  exact ⟨this.pc, this.sp, this.bank, this.level, this.len, this.regs⟩
theorem CD.Ok.enter {d : CD} (h : d.Ok) {line level : Int} (h0 : 0 ≤ line ∧ line ≤ 7) (h1 : 0 ≤ level ∧ level ≤ 7) : (enterD d line level).Ok := by
  have h2 : ({ d with halt := false } : CD).Ok := ⟨h.pc, h.sp, h.bank, h.level, h.len, h.regs⟩
  have := (h2.call (a := 704 + 4 * line) (by omega) (by omega)).down
  exact ⟨this.pc, this.sp, this.bank, h1, this.len, this.regs⟩
theorem MD.Ok.enter {d : CD} {m : MD} (h : d.Ok) (k : m.Ok) : (enterM d m).Ok := by
  have := h.sp
  exact (MD.Ok.call h k).put (by omega) (by omega) h.flags
/-- What is decoded. -/
theorem decV_ok (a b c : Int) : ((decV a b c).1 = 22 ∧ (decV a b c).2.1 = 0 ∧ (decV a b c).2.2 = 0) ∨ okIns (decV a b c).1 (decV a b c).2.1 (decV a b c).2.2 = true := by
  unfold decV
  split
  · rename_i h; right; exact h
  · left; exact ⟨rfl, rfl, rfl⟩
theorem okIns_says {op reg arg : Int} (h : okIns op reg arg = true) : 0 ≤ op ∧ op ≤ 21 ∧ 0 ≤ reg ∧ reg ≤ regT op ∧ 0 ≤ arg ∧ arg ≤ argT op := by simpa [okIns] using h
structure InsOk (op reg arg : Int) : Prop where
  ho : 0 ≤ op ∧ op ≤ 22
  hr : 0 ≤ reg ∧ reg ≤ 3
  ha : 0 ≤ arg ∧ arg ≤ 4095
  hy : op = 5 ∨ op = 20 → arg ≤ 255
  hb : op = 21 → arg ≤ 3
theorem insOk_of {op reg arg : Int} (h : (op = 22 ∧ reg = 0 ∧ arg = 0) ∨ okIns op reg arg = true) : InsOk op reg arg := by
  rcases h with ⟨rfl, rfl, rfl⟩ | h
  · exact ⟨by omega, by omega, by omega, by omega, by omega⟩
  · obtain ⟨h1, h2, h3, h4, h5, h6⟩ := okIns_says h
    have := regT_range op
    have := argT_range op
    refine ⟨by omega, by omega, by omega, fun q => ?_, fun q => ?_⟩
    · unfold argT at h6
      rw [if_neg (by omega), if_pos q] at h6
      exact h6
    · unfold argT at h6
      rw [if_pos q] at h6
      exact h6
theorem fetch_ok (d : CD) (m : MD) : InsOk (fetchF d m).1 (fetchF d m).2.1 (fetchF d m).2.2 := insOk_of (decV_ok _ _ _)
section
variable (d : CD) (m : MD) (reg arg : Int)
theorem execD_0 : execD d m 0 reg arg = d := rfl
theorem execD_1 : execD d m 1 reg arg = { d with halt := true } := rfl
theorem execD_2 : execD d m 2 reg arg = retiD d m := rfl
theorem execD_3 : execD d m 3 reg arg = { d with on := true } := rfl
theorem execD_4 : execD d m 4 reg arg = { d with on := false } := rfl
theorem execD_5 : execD d m 5 reg arg = d.set reg arg := rfl
theorem execD_6 : execD d m 6 reg arg = d.res reg (m.get arg) := rfl
theorem execD_7 : execD d m 7 reg arg = d := rfl
theorem execD_8 : execD d m 8 reg arg = d.res reg (d.reg reg + 1) := rfl
theorem execD_9 : execD d m 9 reg arg = d.res reg (d.reg reg - 1) := rfl
theorem execD_10 : execD d m 10 reg arg = d.comb (d.reg 0 + d.reg reg) := rfl
theorem execD_11 : execD d m 11 reg arg = d.comb (d.reg 0 - d.reg reg) := rfl
theorem execD_12 : execD d m 12 reg arg = d.comb (andI (d.reg 0) (d.reg reg)) := rfl
theorem execD_13 : execD d m 13 reg arg = d.comb (orI (d.reg 0) (d.reg reg)) := rfl
theorem execD_14 : execD d m 14 reg arg = d.comb (xorI (d.reg 0) (d.reg reg)) := rfl
theorem execD_15 : execD d m 15 reg arg = d.at arg := rfl
theorem execD_16 : execD d m 16 reg arg = if d.zero then d.at arg else d := rfl
theorem execD_17 : execD d m 17 reg arg = if d.zero then d else d.at arg := rfl
theorem execD_18 : execD d m 18 reg arg = callD d arg := rfl
theorem execD_19 : execD d m 19 reg arg = backD d m := rfl
theorem execD_20 : execD d m 20 reg arg = d := rfl
theorem execD_21 : execD d m 21 reg arg = { d with bank := arg } := rfl
theorem execD_22 : execD d m 22 reg arg = callD d 752 := rfl
theorem execM_0 : execM d m 0 reg arg = m := rfl
theorem execM_1 : execM d m 1 reg arg = m := rfl
theorem execM_2 : execM d m 2 reg arg = m := rfl
theorem execM_3 : execM d m 3 reg arg = m := rfl
theorem execM_4 : execM d m 4 reg arg = m := rfl
theorem execM_5 : execM d m 5 reg arg = m := rfl
theorem execM_6 : execM d m 6 reg arg = m := rfl
theorem execM_7 : execM d m 7 reg arg = m.put arg (d.reg reg) := rfl
theorem execM_8 : execM d m 8 reg arg = m := rfl
theorem execM_9 : execM d m 9 reg arg = m := rfl
theorem execM_10 : execM d m 10 reg arg = m := rfl
theorem execM_11 : execM d m 11 reg arg = m := rfl
theorem execM_12 : execM d m 12 reg arg = m := rfl
theorem execM_13 : execM d m 13 reg arg = m := rfl
theorem execM_14 : execM d m 14 reg arg = m := rfl
theorem execM_15 : execM d m 15 reg arg = m := rfl
theorem execM_16 : execM d m 16 reg arg = m := rfl
theorem execM_17 : execM d m 17 reg arg = m := rfl
theorem execM_18 : execM d m 18 reg arg = callM d m := rfl
theorem execM_19 : execM d m 19 reg arg = m := rfl
theorem execM_20 : execM d m 20 reg arg = m := rfl
theorem execM_21 : execM d m 21 reg arg = m := rfl
theorem execM_22 : execM d m 22 reg arg = callM d m := rfl
end
theorem ops23 {op : Int} (h : 0 ≤ op ∧ op ≤ 22) : op = 0 ∨ op = 1 ∨ op = 2 ∨ op = 3 ∨ op = 4 ∨ op = 5 ∨ op = 6 ∨ op = 7 ∨ op = 8 ∨ op = 9 ∨ op = 10 ∨ op = 11 ∨ op = 12 ∨ op = 13 ∨ op = 14 ∨ op = 15 ∨ op = 16 ∨ op = 17 ∨ op = 18 ∨ op = 19 ∨ op = 20 ∨ op = 21 ∨ op = 22 := by omega
theorem CD.Ok.exec {d : CD} (h : d.Ok) {m : MD} {op reg arg : Int} (i : InsOk op reg arg) : (execD d m op reg arg).Ok := by
  have ia := i.ha
  have iy := i.hy
  have ib := i.hb
  have e1 : ∀ x, ({ d with halt := x } : CD).Ok := fun x => ⟨h.pc, h.sp, h.bank, h.level, h.len, h.regs⟩
  have e2 : ∀ x, ({ d with on := x } : CD).Ok := fun x => ⟨h.pc, h.sp, h.bank, h.level, h.len, h.regs⟩
  rcases ops23 i.ho with rfl | rfl | rfl | rfl | rfl | rfl | rfl | rfl | rfl | rfl | rfl | rfl | rfl | rfl | rfl | rfl | rfl | rfl | rfl | rfl | rfl | rfl | rfl
  · exact h
  · exact e1 _
  · exact h.reti m
  · exact e2 _
  · exact e2 _
  · exact h.set ⟨ia.1, iy (.inl rfl)⟩
  · exact h.res _ _
  · exact h
  · exact h.res _ _
  · exact h.res _ _
  · exact h.comb _
  · exact h.comb _
  · exact h.comb _
  · exact h.comb _
  · exact h.comb _
  · exact h.at ia.1 ia.2
  · rw [execD_16]; split
    · exact h.at ia.1 ia.2
    · exact h
  · rw [execD_17]; split
    · exact h
    · exact h.at ia.1 ia.2
  · exact h.call ia.1 ia.2
  · exact h.back m
  · exact h
  · exact ⟨h.pc, h.sp, ⟨ia.1, ib rfl⟩, h.level, h.len, h.regs⟩
  · exact h.call (by omega) (by omega)
theorem MD.Ok.exec {d : CD} (h : d.Ok) {m : MD} (k : m.Ok) {op reg arg : Int} (i : InsOk op reg arg) : (execM d m op reg arg).Ok := by
  rcases ops23 i.ho with rfl | rfl | rfl | rfl | rfl | rfl | rfl | rfl | rfl | rfl | rfl | rfl | rfl | rfl | rfl | rfl | rfl | rfl | rfl | rfl | rfl | rfl | rfl
  · exact k
  · exact k
  · exact k
  · exact k
  · exact k
  · exact k
  · exact k
  · exact k.put i.ha.1 i.ha.2 (h.reg i.hr.1 i.hr.2)
  · exact k
  · exact k
  · exact k
  · exact k
  · exact k
  · exact k
  · exact k
  · exact k
  · exact k
  · exact k
  · exact MD.Ok.call h k
  · exact k
  · exact k
  · exact k
  · exact MD.Ok.call h k
theorem CD.Ok.next {d : CD} (h : d.Ok) (m : MD) : (nextD d m).Ok := h.at (by omega) (by omega)
theorem CD.Ok.step {d : CD} (h : d.Ok) (m : MD) : (stepD d m).Ok := by
  unfold stepD
  split
  · exact h
  · exact (h.next m).exec (fetch_ok d m)
theorem MD.Ok.step {d : CD} (h : d.Ok) {m : MD} (k : m.Ok) : (stepM d m).Ok := by
  unfold stepM
  split
  · exact k
  · exact MD.Ok.exec (h.next m) k (fetch_ok d m)
end Go.Proofs.Ytieljgoodmoacaa
