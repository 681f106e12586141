/- Texts of this claim, one behind the other: MemMath, CpuMath, MemOk, Kit8, CloneI. -/
import Derived.Test.YtcchhbkbnbphhaaGreatDoorCycleOf
import Derived.Test.YtcchhbkbnbphhaaGreatDoorOpDec
import Derived.Laws.Tables
import Derived.Lib.SliceRun
import Derived.Test.YtcchhbkbnbphhaaGreatDoorM6
/- The memory bus in plain words: which memories are valid, the regions, what a read gives and a write leaves. -/
namespace Go.Proofs.YtcchhbkbnbphhaaGreatDoor
open Go.RowKit

def okMem (r i : List Int) (zs : List Int) (gs : List Bool) (st : Int) : Bool := (decide (r.length = 256) && decide (i.length = 32)) && ((r.all byB && i.all byB) && okFlash zs gs st)
def adB (a : Int) : Bool := decide (0 ≤ a ∧ a ≤ 4095)
def regR (a : Int) : Int := if a < 256 then 1 else if a < 288 then 2 else if 512 ≤ a ∧ a ≤ 767 then 3 else 0
def regK (a : Int) : Int := if a < 256 then a else if a < 288 then a - 256 else if 512 ≤ a ∧ a ≤ 767 then a - 512 else 0
theorem all_bytes {zs : List Int} (h : zs.all byB = true) : ∀ z ∈ zs, 0 ≤ z ∧ z ≤ 255 := fun z hz => byB_range (List.all_eq_true.1 h z hz)
theorem okMem_len {r i zs : List Int} {gs : List Bool} {st : Int} (h : okMem r i zs gs st = true) : r.length = 256 ∧ i.length = 32 ∧ r.all byB = true ∧ i.all byB = true ∧ okFlash zs gs st = true := by
  unfold okMem at h
  simp only [Bool.and_eq_true, decide_eq_true_eq] at h
  exact ⟨h.1.1, h.1.2, h.2.1.1, h.2.1.2, h.2.2⟩
theorem okMem_mk {r i zs : List Int} {gs : List Bool} {st : Int} (h1 : r.length = 256) (h2 : i.length = 32) (h3 : r.all byB = true) (h4 : i.all byB = true) (h5 : okFlash zs gs st = true) : okMem r i zs gs st = true := by
  unfold okMem; simp [h1, h2, h3, h4, h5]
theorem okMem_no1 (r i zs : List Int) (gs : List Bool) (st : Int) (h : r.length ≠ 256) : okMem r i zs gs st = false := by unfold okMem; simp [h]
theorem okMem_no2 (r i zs : List Int) (gs : List Bool) (st : Int) (h : i.length ≠ 32) : okMem r i zs gs st = false := by unfold okMem; simp [h]
theorem okMem_no3 (r i zs : List Int) (gs : List Bool) (st : Int) (h : r.all byB = false) : okMem r i zs gs st = false := by unfold okMem; simp [h]
theorem okMem_no4 (r i zs : List Int) (gs : List Bool) (st : Int) (h : i.all byB = false) : okMem r i zs gs st = false := by unfold okMem; simp [h]
theorem okMem_yes (r i zs : List Int) (gs : List Bool) (st : Int) (h1 : r.length = 256) (h2 : i.length = 32) (h3 : r.all byB = true) (h4 : i.all byB = true) : okMem r i zs gs st = okFlash zs gs st := by unfold okMem; simp [h1, h2, h3, h4]

def getV (r i zs : List Int) (gs : List Bool) (rd : List Int → List Bool → Int → Nat → Int) (st a : Int) : Int :=
  if regR a = 1 then r.getD (regK a).toNat 0 else if regR a = 2 then i.getD (regK a).toNat 0 else if regR a = 3 then rd zs gs st (regK a).toNat else 255
def putR (r : List Int) (a v : Int) : List Int := if regR a = 1 then r.set (regK a).toNat v else r
def putI (i : List Int) (a v : Int) : List Int := if regR a = 2 ∧ 0 < regK a then i.set (regK a).toNat v else i
def putZ (zs : List Int) (gs : List Bool) (st a v : Int) : List Int := if regR a = 3 then cycZ zs gs st (regK a).toNat v.toNat else zs
def putG (gs : List Bool) (st a : Int) : List Bool := if regR a = 3 then cycG gs st (regK a).toNat else gs
def putS (st a v : Int) : Int := if regR a = 3 then nextS st (regK a) v else st
theorem putR_len (r : List Int) (a v : Int) : (putR r a v).length = r.length := by unfold putR; split <;> simp
theorem putI_len (i : List Int) (a v : Int) : (putI i a v).length = i.length := by unfold putI; split <;> simp
theorem putZ_len (zs : List Int) (gs : List Bool) (st a v : Int) : (putZ zs gs st a v).length = zs.length := by unfold putZ; split <;> simp [cycZ_len]
theorem putG_len (gs : List Bool) (st a : Int) : (putG gs st a).length = gs.length := by unfold putG; split <;> simp [cycG_len]

theorem reg_ways (k : Nat) (hk : k < 4096) : (k < 256 ∧ regR k = 1 ∧ regK k = k) ∨ (256 ≤ k ∧ k < 288 ∧ regR k = 2 ∧ regK k = ((k - 256 : Nat) : Int)) ∨ (512 ≤ k ∧ k < 768 ∧ regR k = 3 ∧ regK k = ((k - 512 : Nat) : Int)) ∨ (288 ≤ k ∧ (k < 512 ∨ 768 ≤ k) ∧ regR k = 0 ∧ regK k = 0) := by
  unfold regR regK
  by_cases h1 : k < 256
  · left; rw [if_pos (by omega), if_pos (by omega)]; exact ⟨h1, rfl, rfl⟩
  · right
    by_cases h2 : k < 288
    · left; rw [if_neg (by omega), if_pos (by omega), if_neg (by omega), if_pos (by omega)]; exact ⟨by omega, h2, rfl, by omega⟩
    · right
      by_cases h3 : 512 ≤ k ∧ k < 768
      · left; rw [if_neg (by omega), if_neg (by omega), if_pos (by omega), if_neg (by omega), if_neg (by omega), if_pos (by omega)]; exact ⟨h3.1, h3.2, rfl, by omega⟩
      · right; rw [if_neg (by omega), if_neg (by omega), if_neg (by omega), if_neg (by omega), if_neg (by omega), if_neg (by omega)]; exact ⟨by omega, by omega, rfl, rfl⟩
end Go.Proofs.YtcchhbkbnbphhaaGreatDoor

/- A processor and a memory as plain data: pushing, pulling, calling, returning, the flags, what an instruction does. -/
namespace Go.Proofs.YtcchhbkbnbphhaaGreatDoor
open Go.RowKit

structure MD where
  r : List Int
  i : List Int
  z : List Int
  g : List Bool
  s : Int
structure CD where
  pc : Int
  sp : Int
  bank : Int
  level : Int
  zero : Bool
  carry : Bool
  on : Bool
  halt : Bool
  regs : List Int

def MD.ok (m : MD) : Bool := okMem m.r m.i m.z m.g m.s
def CD.ok (d : CD) : Bool := rngB d.pc 0 4095 && (rngB d.sp 0 255 && (rngB d.bank 0 3 && (rngB d.level 0 7 && (decide (d.regs.length = 16) && d.regs.all byB))))
def MD.get (m : MD) (a : Int) : Int := getV m.r m.i m.z m.g readV m.s a
def MD.put (m : MD) (a v : Int) : MD := ⟨putR m.r a v, putI m.i a v, putZ m.z m.g m.s a v, putG m.g m.s a, putS m.s a v⟩
def CD.reg (d : CD) (k : Int) : Int := d.regs.getD (4 * d.bank + k).toNat 0
def CD.set (d : CD) (k v : Int) : CD := { d with regs := d.regs.set (4 * d.bank + k).toNat v }
def CD.flags (d : CD) : Int := d.level + 8 * d.bank + 32 * bitI d.zero + 64 * bitI d.carry + 128 * bitI d.on
def CD.toFlags (d : CD) (v : Int) : CD := { d with level := v % 8, bank := v / 8 % 4, zero := decide (v / 32 % 2 = 1), carry := decide (v / 64 % 2 = 1), on := decide (v / 128 % 2 = 1) }
def CD.down (d : CD) : CD := { d with sp := (d.sp + 255) % 256 }
def CD.up (d : CD) : CD := { d with sp := (d.sp + 1) % 256 }
def CD.at (d : CD) (pc : Int) : CD := { d with pc := pc }
def callD (d : CD) (pc : Int) : CD := d.down.down.at pc
def callM (d : CD) (m : MD) : MD := (m.put d.sp (d.pc / 256)).put ((d.sp + 255) % 256) (d.pc % 256)
def backD (d : CD) (m : MD) : CD := d.up.up.at ((m.get ((d.sp + 1) % 256) + 256 * m.get (((d.sp + 1) % 256 + 1) % 256)) % 4096)
def retiD (d : CD) (m : MD) : CD := (backD d.up m).toFlags (m.get ((d.sp + 1) % 256))
def enterD (d : CD) (line level : Int) : CD := { (callD { d with halt := false } (704 + 4 * line)).down with level := level }
def enterM (d : CD) (m : MD) : MD := (callM d m).put (((d.sp + 255) % 256 + 255) % 256) d.flags
def CD.res (d : CD) (k v : Int) : CD := { d.set k (v % 256) with zero := decide (v % 256 = 0) }
def andI (a b : Int) : Int := ((a.toNat &&& b.toNat : Nat) : Int)
def orI (a b : Int) : Int := ((a.toNat ||| b.toNat : Nat) : Int)
def xorI (a b : Int) : Int := ((a.toNat ^^^ b.toNat : Nat) : Int)
def aluV (op a b : Int) : Int := if op = 10 then a + b else if op = 11 then a - b else if op = 12 then andI a b else if op = 13 then orI a b else xorI a b
def CD.comb (d : CD) (v : Int) : CD := { d.res 0 v with carry := !byB v }
def execD (d : CD) (m : MD) (op reg arg : Int) : CD :=
  if op = 1 then { d with halt := true } else if op = 2 then retiD d m else if op = 3 then { d with on := true } else if op = 4 then { d with on := false }
  else if op = 5 then d.set reg arg else if op = 6 then d.res reg (m.get arg) else if op = 8 then d.res reg (d.reg reg + 1) else if op = 9 then d.res reg (d.reg reg - 1)
  else if 10 ≤ op ∧ op ≤ 14 then d.comb (aluV op (d.reg 0) (d.reg reg)) else if op = 15 then d.at arg else if op = 16 then (if d.zero then d.at arg else d) else if op = 17 then (if d.zero then d else d.at arg)
  else if op = 18 then callD d arg else if op = 19 then backD d m else if op = 21 then { d with bank := arg } else if op = 22 then callD d 752 else d
def execM (d : CD) (m : MD) (op reg arg : Int) : MD := if op = 7 then m.put arg (d.reg reg) else if op = 18 ∨ op = 22 then callM d m else m
def execS (op arg : Int) : Int := if op = 20 then arg else -1
def fetchF (d : CD) (m : MD) : Int × Int × Int := decV (m.get d.pc) (m.get ((d.pc + 1) % 4096)) (m.get ((d.pc + 2) % 4096))
def nextD (d : CD) (m : MD) : CD := d.at ((d.pc + lenT (fetchF d m).1) % 4096)
def stepD (d : CD) (m : MD) : CD := if d.halt then d else execD (nextD d m) m (fetchF d m).1 (fetchF d m).2.1 (fetchF d m).2.2
def stepM (d : CD) (m : MD) : MD := if d.halt then m else execM (nextD d m) m (fetchF d m).1 (fetchF d m).2.1 (fetchF d m).2.2
def stepN (d : CD) (m : MD) : Int := if d.halt then 4 else cycT (fetchF d m).1
def stepS (d : CD) (m : MD) : Int := if d.halt then -1 else execS (fetchF d m).1 (fetchF d m).2.2

structure CD.Ok (d : CD) : Prop where
  pc : 0 ≤ d.pc ∧ d.pc ≤ 4095
  sp : 0 ≤ d.sp ∧ d.sp ≤ 255
  bank : 0 ≤ d.bank ∧ d.bank ≤ 3
  level : 0 ≤ d.level ∧ d.level ≤ 7
  len : d.regs.length = 16
  regs : ∀ z ∈ d.regs, 0 ≤ z ∧ z ≤ 255
structure MD.Ok (m : MD) : Prop where
  r : m.r.length = 256
  i : m.i.length = 32
  z : m.z.length = 256
  g : m.g.length = 16
  s : 0 ≤ m.s ∧ m.s ≤ 8
  rb : ∀ z ∈ m.r, 0 ≤ z ∧ z ≤ 255
  ib : ∀ z ∈ m.i, 0 ≤ z ∧ z ≤ 255
  zb : ∀ z ∈ m.z, 0 ≤ z ∧ z ≤ 255
theorem byB_iff {v : Int} : byB v = true ↔ 0 ≤ v ∧ v ≤ 255 := by unfold byB; simp
theorem CD.ok_iff {d : CD} : d.ok = true ↔ d.Ok := by
  unfold CD.ok
  constructor
  · intro h
    simp only [Bool.and_eq_true, rngB, decide_eq_true_eq, List.all_eq_true] at h
    exact ⟨h.1, h.2.1, h.2.2.1, h.2.2.2.1, h.2.2.2.2.1, fun z hz => byB_iff.1 (h.2.2.2.2.2 z hz)⟩
  · intro h
    simp only [Bool.and_eq_true, rngB, decide_eq_true_eq, List.all_eq_true]
    exact ⟨h.pc, h.sp, h.bank, h.level, h.len, fun z hz => byB_iff.2 (h.regs z hz)⟩
theorem MD.ok_iff {m : MD} : m.ok = true ↔ m.Ok := by
  unfold MD.ok
  constructor
  · intro h
    obtain ⟨h1, h2, h3, h4, h5⟩ := okMem_len h
    obtain ⟨h6, h7, h8, h9⟩ := okFlash_len h5
    exact ⟨h1, h2, h6, h7, h8, all_bytes h3, all_bytes h4, h9⟩
  · intro h
    exact okMem_mk h.r h.i (List.all_eq_true.2 fun z hz => byB_iff.2 (h.rb z hz)) (List.all_eq_true.2 fun z hz => byB_iff.2 (h.ib z hz)) (okFlash_mk h.z h.g h.s h.zb)

theorem getD_byte {l : List Int} {n : Nat} (h : ∀ z ∈ l, 0 ≤ z ∧ z ≤ 255) (k : Nat) (hn : n = l.length) (hk : k < n) : 0 ≤ l.getD k 0 ∧ l.getD k 0 ≤ 255 := by
  rw [List.getD_eq_getElem?_getD, List.getElem?_eq_getElem (by omega)]
  exact h _ (List.getElem_mem _)
theorem set_byte {l : List Int} (h : ∀ z ∈ l, 0 ≤ z ∧ z ≤ 255) (k : Nat) {v : Int} (hv : 0 ≤ v ∧ v ≤ 255) : ∀ z ∈ l.set k v, 0 ≤ z ∧ z ≤ 255 := fun z hz => by
  rcases List.mem_or_eq_of_mem_set hz with h1 | rfl
  · exact h z h1
  · exact hv
theorem readV_range {zs : List Int} {gs : List Bool} {st : Int} {n : Nat} (hz : ∀ z ∈ zs, 0 ≤ z ∧ z ≤ 255) (hl : zs.length = 256) (hn : n < 256) : 0 ≤ readV zs gs st n ∧ readV zs gs st n ≤ 255 := by
  unfold readV
  split
  · repeat' split
    all_goals omega
  · exact getD_byte hz n hl.symm hn
theorem MD.Ok.get {m : MD} (h : m.Ok) (a : Int) (h0 : 0 ≤ a) (h1 : a ≤ 4095) : 0 ≤ m.get a ∧ m.get a ≤ 255 := by
  obtain ⟨k, rfl⟩ : ∃ k : Nat, a = k := ⟨a.toNat, by omega⟩
  unfold MD.get getV
  rcases reg_ways k (by omega) with ⟨h2, e1, e2⟩ | ⟨h2, h3, e1, e2⟩ | ⟨h2, h3, e1, e2⟩ | ⟨h2, h3, e1, e2⟩
  · rw [e1, e2, if_pos rfl]; exact getD_byte h.rb _ h.r.symm (by omega)
  · rw [e1, e2, if_neg (by omega), if_pos rfl]; exact getD_byte h.ib _ h.i.symm (by omega)
  · rw [e1, e2, if_neg (by omega), if_neg (by omega), if_pos rfl]; exact readV_range h.zb h.z (by omega)
  · rw [e1, if_neg (by omega), if_neg (by omega), if_neg (by omega)]; omega
theorem MD.Ok.put {m : MD} (h : m.Ok) {a v : Int} (_h0 : 0 ≤ a) (_h1 : a ≤ 4095) (hv : 0 ≤ v ∧ v ≤ 255) : (m.put a v).Ok := by
  refine ⟨(putR_len _ _ _).trans h.r, (putI_len _ _ _).trans h.i, (putZ_len _ _ _ _ _).trans h.z, (putG_len _ _ _).trans h.g, ?_, ?_, ?_, ?_⟩
  · show 0 ≤ putS m.s a v ∧ putS m.s a v ≤ 8
    unfold putS; split
    · exact nextS_in _ _ _
    · exact h.s
  · show ∀ z ∈ putR m.r a v, 0 ≤ z ∧ z ≤ 255
    unfold putR; split
    · exact set_byte h.rb _ hv
    · exact h.rb
  · show ∀ z ∈ putI m.i a v, 0 ≤ z ∧ z ≤ 255
    unfold putI; split
    · exact set_byte h.ib _ hv
    · exact h.ib
  · show ∀ z ∈ putZ m.z m.g m.s a v, 0 ≤ z ∧ z ≤ 255
    unfold putZ; split
    · exact cycZ_range h.zb (by omega)
    · exact h.zb
theorem CD.Ok.down {d : CD} (h : d.Ok) : d.down.Ok := ⟨h.pc, by show 0 ≤ (d.sp + 255) % 256 ∧ (d.sp + 255) % 256 ≤ 255; omega, h.bank, h.level, h.len, h.regs⟩
theorem CD.Ok.up {d : CD} (h : d.Ok) : d.up.Ok := ⟨h.pc, by show 0 ≤ (d.sp + 1) % 256 ∧ (d.sp + 1) % 256 ≤ 255; omega, h.bank, h.level, h.len, h.regs⟩
theorem CD.Ok.at {d : CD} (h : d.Ok) {a : Int} (h0 : 0 ≤ a) (h1 : a ≤ 4095) : (d.at a).Ok := ⟨⟨h0, h1⟩, h.sp, h.bank, h.level, h.len, h.regs⟩
theorem CD.Ok.reg {d : CD} (h : d.Ok) {k : Int} (h0 : 0 ≤ k) (h1 : k ≤ 3) : 0 ≤ d.reg k ∧ d.reg k ≤ 255 := by
  have := h.bank
  exact getD_byte h.regs _ h.len.symm (by omega)
theorem CD.Ok.set {d : CD} (h : d.Ok) {k v : Int} (hv : 0 ≤ v ∧ v ≤ 255) : (d.set k v).Ok := ⟨h.pc, h.sp, h.bank, h.level, by simpa [CD.set] using h.len, set_byte h.regs _ hv⟩
theorem CD.Ok.flags {d : CD} (h : d.Ok) : 0 ≤ d.flags ∧ d.flags ≤ 255 := by
  have := h.bank
  have := h.level
  have hb : ∀ b, 0 ≤ bitI b ∧ bitI b ≤ 1 := fun b => by cases b <;> decide
  have := hb d.zero
  have := hb d.carry
  have := hb d.on
  unfold CD.flags
  omega
theorem CD.Ok.toFlags {d : CD} (h : d.Ok) (v : Int) : (d.toFlags v).Ok := ⟨h.pc, h.sp, by show 0 ≤ v / 8 % 4 ∧ v / 8 % 4 ≤ 3; omega, by show 0 ≤ v % 8 ∧ v % 8 ≤ 7; omega, h.len, h.regs⟩
theorem CD.Ok.call {d : CD} (h : d.Ok) {a : Int} (h0 : 0 ≤ a) (h1 : a ≤ 4095) : (callD d a).Ok := h.down.down.at h0 h1
theorem MD.Ok.call {d : CD} {m : MD} (h : d.Ok) (k : m.Ok) : (callM d m).Ok := by
  have := h.pc
  have := h.sp
  exact (k.put (by omega) (by omega) (by omega)).put (by omega) (by omega) (by omega)
theorem CD.Ok.back {d : CD} (h : d.Ok) (m : MD) : (backD d m).Ok := h.up.up.at (by omega) (by omega)
theorem CD.Ok.reti {d : CD} (h : d.Ok) (m : MD) : (retiD d m).Ok := (h.up.back m).toFlags _
theorem CD.Ok.res {d : CD} (h : d.Ok) (k v : Int) : (d.res k v).Ok := by
  have := h.set (k := k) (v := v % 256) (by omega)
  exact ⟨this.pc, this.sp, this.bank, this.level, this.len, this.regs⟩
theorem CD.Ok.comb {d : CD} (h : d.Ok) (v : Int) : (d.comb v).Ok := by
  have := h.res 0 v
  exact ⟨this.pc, this.sp, this.bank, this.level, this.len, this.regs⟩
theorem CD.Ok.enter {d : CD} (h : d.Ok) {line level : Int} (h0 : 0 ≤ line ∧ line ≤ 7) (h1 : 0 ≤ level ∧ level ≤ 7) : (enterD d line level).Ok := by
  have h2 : ({ d with halt := false } : CD).Ok := ⟨h.pc, h.sp, h.bank, h.level, h.len, h.regs⟩
  have := (h2.call (a := 704 + 4 * line) (by omega) (by omega)).down
  exact ⟨this.pc, this.sp, this.bank, h1, this.len, this.regs⟩
theorem MD.Ok.enter {d : CD} {m : MD} (h : d.Ok) (k : m.Ok) : (enterM d m).Ok := by
  have := h.sp
  exact (MD.Ok.call h k).put (by omega) (by omega) h.flags
theorem decV_ok (a b c : Int) : ((decV a b c).1 = 22 ∧ (decV a b c).2.1 = 0 ∧ (decV a b c).2.2 = 0) ∨ okIns (decV a b c).1 (decV a b c).2.1 (decV a b c).2.2 = true := by
  unfold decV
  split
  · rename_i h; right; exact h
  · left; exact ⟨rfl, rfl, rfl⟩
theorem okIns_says {op reg arg : Int} (h : okIns op reg arg = true) : 0 ≤ op ∧ op ≤ 21 ∧ 0 ≤ reg ∧ reg ≤ regT op ∧ 0 ≤ arg ∧ arg ≤ argT op := by simpa [okIns] using h
structure InsOk (op reg arg : Int) : Prop where
  ho : 0 ≤ op ∧ op ≤ 22
  hr : 0 ≤ reg ∧ reg ≤ 3
  ha : 0 ≤ arg ∧ arg ≤ 4095
  hy : op = 5 ∨ op = 20 → arg ≤ 255
  hb : op = 21 → arg ≤ 3
theorem insOk_of {op reg arg : Int} (h : (op = 22 ∧ reg = 0 ∧ arg = 0) ∨ okIns op reg arg = true) : InsOk op reg arg := by
  rcases h with ⟨rfl, rfl, rfl⟩ | h
  · exact ⟨by omega, by omega, by omega, by omega, by omega⟩
  · obtain ⟨h1, h2, h3, h4, h5, h6⟩ := okIns_says h
    have := regT_range op
    have := argT_range op
    refine ⟨by omega, by omega, by omega, fun q => ?_, fun q => ?_⟩
    · unfold argT at h6
      rw [if_neg (by omega), if_pos q] at h6
      exact h6
    · unfold argT at h6
      rw [if_pos q] at h6
      exact h6
theorem fetch_ok (d : CD) (m : MD) : InsOk (fetchF d m).1 (fetchF d m).2.1 (fetchF d m).2.2 := insOk_of (decV_ok _ _ _)
section
variable (d : CD) (m : MD) (reg arg : Int)
theorem execD_16 : execD d m 16 reg arg = if d.zero then d.at arg else d := rfl
theorem execD_17 : execD d m 17 reg arg = if d.zero then d else d.at arg := rfl
end
theorem ops23 {op : Int} (h : 0 ≤ op ∧ op ≤ 22) : op = 0 ∨ op = 1 ∨ op = 2 ∨ op = 3 ∨ op = 4 ∨ op = 5 ∨ op = 6 ∨ op = 7 ∨ op = 8 ∨ op = 9 ∨ op = 10 ∨ op = 11 ∨ op = 12 ∨ op = 13 ∨ op = 14 ∨ op = 15 ∨ op = 16 ∨ op = 17 ∨ op = 18 ∨ op = 19 ∨ op = 20 ∨ op = 21 ∨ op = 22 := by omega
theorem CD.Ok.exec {d : CD} (h : d.Ok) {m : MD} {op reg arg : Int} (i : InsOk op reg arg) : (execD d m op reg arg).Ok := by
  have ia := i.ha
  have iy := i.hy
  have ib := i.hb
  have e1 : ∀ x, ({ d with halt := x } : CD).Ok := fun x => ⟨h.pc, h.sp, h.bank, h.level, h.len, h.regs⟩
  have e2 : ∀ x, ({ d with on := x } : CD).Ok := fun x => ⟨h.pc, h.sp, h.bank, h.level, h.len, h.regs⟩
  rcases ops23 i.ho with rfl | rfl | rfl | rfl | rfl | rfl | rfl | rfl | rfl | rfl | rfl | rfl | rfl | rfl | rfl | rfl | rfl | rfl | rfl | rfl | rfl | rfl | rfl
  · exact h
  · exact e1 _
  · exact h.reti m
  · exact e2 _
  · exact e2 _
  · exact h.set ⟨ia.1, iy (.inl rfl)⟩
  · exact h.res _ _
  · exact h
  · exact h.res _ _
  · exact h.res _ _
  · exact h.comb _
  · exact h.comb _
  · exact h.comb _
  · exact h.comb _
  · exact h.comb _
  · exact h.at ia.1 ia.2
  · rw [execD_16]; split
    · exact h.at ia.1 ia.2
    · exact h
  · rw [execD_17]; split
    · exact h
    · exact h.at ia.1 ia.2
  · exact h.call ia.1 ia.2
  · exact h.back m
  · exact h
  · exact ⟨h.pc, h.sp, ⟨ia.1, ib rfl⟩, h.level, h.len, h.regs⟩
  · exact h.call (by omega) (by omega)
theorem MD.Ok.exec {d : CD} (h : d.Ok) {m : MD} (k : m.Ok) {op reg arg : Int} (i : InsOk op reg arg) : (execM d m op reg arg).Ok := by
  rcases ops23 i.ho with rfl | rfl | rfl | rfl | rfl | rfl | rfl | rfl | rfl | rfl | rfl | rfl | rfl | rfl | rfl | rfl | rfl | rfl | rfl | rfl | rfl | rfl | rfl
  · exact k
  · exact k
  · exact k
  · exact k
  · exact k
  · exact k
  · exact k
  · exact k.put i.ha.1 i.ha.2 (h.reg i.hr.1 i.hr.2)
  · exact k
  · exact k
  · exact k
  · exact k
  · exact k
  · exact k
  · exact k
  · exact k
  · exact k
  · exact k
  · exact MD.Ok.call h k
  · exact k
  · exact k
  · exact k
  · exact MD.Ok.call h k
theorem CD.Ok.next {d : CD} (h : d.Ok) (m : MD) : (nextD d m).Ok := h.at (by omega) (by omega)
theorem CD.Ok.step {d : CD} (h : d.Ok) (m : MD) : (stepD d m).Ok := by
  unfold stepD
  split
  · exact h
  · exact (h.next m).exec (fetch_ok d m)
theorem MD.Ok.step {d : CD} (h : d.Ok) {m : MD} (k : m.Ok) : (stepM d m).Ok := by
  unfold stepM
  split
  · exact k
  · exact MD.Ok.exec (h.next m) k (fetch_ok d m)
end Go.Proofs.YtcchhbkbnbphhaaGreatDoor

/- MemOK on both sides; impl.Mem.check; the regions on both sides. -/
namespace Go.Proofs.YtcchhbkbnbphhaaGreatDoor
open Go.RowKit

set_option maxRecDepth 100000 in
theorem isAddress (n : Int) (w : World) : Calls Tryz.prog 45 #[.int .i64 n] w fun e w' => e = .returned (.bool (adB n)) ∧ w = w' := by
  go_enter Tryz.func45, Tryz.ntmps45
  go_wp2
  all_goals go_ret
  all_goals (refine ⟨ret_bool ?_, rfl⟩)
  all_goals (unfold adB; rw [Bool.eq_iff_iff]; simp; try omega)
set_option maxRecDepth 100000 in
theorem l01In4095 (n : Int) (w : World) : Calls Tryz.prog 38 #[.int .i64 n, .int .i64 0, .int .i64 4095] w fun e w' => e = .returned (.bool (adB n)) ∧ w = w' := by
  go_enter Tryz.func38, Tryz.ntmps38
  go_wp2
  all_goals go_ret
  all_goals (refine ⟨ret_bool ?_, rfl⟩)
  all_goals (unfold adB; rw [Bool.eq_iff_iff]; simp; try omega)
set_option maxRecDepth 100000 in
theorem l05At (n : Int) (w : World) : Calls Tryz.prog 56 #[.int .i64 n] w fun e w' => e = .returned (.bool (adB n)) ∧ w = w' := by
  go_enter Tryz.func56, Tryz.ntmps56
  go_wp2_with (first | (go_at_call 38; refine (l01In4095 _ _).mono ?_; rintro e w' ⟨rfl, rfl⟩))
  all_goals go_ret
  all_goals exact ⟨rfl, rfl⟩
set_option maxRecDepth 100000 in
theorem l01InF (n : Int) (w : World) : Calls Tryz.prog 38 #[.int .i64 n, .int .i64 512, .int .i64 767] w fun e w' => e = .returned (.bool (decide (512 ≤ n ∧ n ≤ 767))) ∧ w = w' := by
  go_enter Tryz.func38, Tryz.ntmps38
  go_wp2
  all_goals go_ret
  all_goals (refine ⟨ret_bool ?_, rfl⟩)
  all_goals (rw [Bool.eq_iff_iff]; simp; try omega)
set_option maxRecDepth 100000 in
theorem regionOf (n : Int) (w : World) (h0 : 0 ≤ n) (h1 : n ≤ 4095) : Calls Tryz.prog 114 #[.int .i64 n] w fun e w' => e = .returned (.tuple #[.int .i64 (regR n), .int .i64 (regK n)]) ∧ w = w' := by
  obtain ⟨r, hr⟩ : ∃ r, regR n = r := ⟨_, rfl⟩
  obtain ⟨k, hk⟩ : ∃ k, regK n = k := ⟨_, rfl⟩
  rw [hr, hk]
  unfold regR at hr
  unfold regK at hk
  by_cases a : n < 256
  · rw [if_pos a] at hr hk
    subst hr hk
    go_enter Tryz.func114, Tryz.ntmps114
    go_wp2
    exact bodyPost_ret (v := .tuple #[.int .i64 1, .int .i64 n]) (by simp [results, Tryz.results114, go_sem]) rfl ⟨rfl, rfl⟩
  · rw [if_neg a] at hr hk
    by_cases b : n < 288
    · rw [if_pos b] at hr hk
      have HE := Lib.hid hk
      clear hk
      subst hr
      go_enter Tryz.func114, Tryz.ntmps114
      go_wp2
      exact bodyPost_ret (v := .tuple #[.int .i64 2, .int .i64 (n - 256)]) (by simp [results, Tryz.results114, go_sem]; try omega) rfl ⟨by rw [HE.out], rfl⟩
    · rw [if_neg b] at hr hk
      by_cases c : 512 ≤ n
      · by_cases d : n < 768
        · rw [if_pos ⟨c, by omega⟩] at hr hk
          have HE := Lib.hid hk
          clear hk
          subst hr
          go_enter Tryz.func114, Tryz.ntmps114
          go_wp2
          exact bodyPost_ret (v := .tuple #[.int .i64 3, .int .i64 (n - 512)]) (by simp [results, Tryz.results114, go_sem]; try omega) rfl ⟨by rw [HE.out], rfl⟩
        · rw [if_neg (by omega)] at hr hk
          subst hr hk
          go_enter Tryz.func114, Tryz.ntmps114
          go_wp2
          exact bodyPost_ret (v := .tuple #[.int .i64 0, .int .i64 0]) (by simp [results, Tryz.results114, go_sem]) rfl ⟨rfl, rfl⟩
      · rw [if_neg (by omega)] at hr hk
        subst hr hk
        go_enter Tryz.func114, Tryz.ntmps114
        go_wp2
        exact bodyPost_ret (v := .tuple #[.int .i64 0, .int .i64 0]) (by simp [results, Tryz.results114, go_sem]) rfl ⟨rfl, rfl⟩
set_option maxRecDepth 100000 in
theorem l05Region (n : Int) (w : World) (h0 : 0 ≤ n) (h1 : n ≤ 4095) : Calls Tryz.prog 108 #[.int .i64 n] w fun e w' => e = .returned (.tuple #[.int .i64 (regR n), .int .i64 (regK n)]) ∧ w = w' := by
  obtain ⟨r, hr⟩ : ∃ r, regR n = r := ⟨_, rfl⟩
  obtain ⟨k, hk⟩ : ∃ k, regK n = k := ⟨_, rfl⟩
  rw [hr, hk]
  unfold regR at hr
  unfold regK at hk
  by_cases a : n < 256
  · rw [if_pos a] at hr hk
    subst hr hk
    go_enter Tryz.func108, Tryz.ntmps108
    go_wp2
    exact bodyPost_ret (v := .tuple #[.int .i64 1, .int .i64 n]) (by simp [results, Tryz.results108, go_sem]) rfl ⟨rfl, rfl⟩
  · rw [if_neg a] at hr hk
    by_cases b : n < 288
    · rw [if_pos b] at hr hk
      have HE := Lib.hid hk
      clear hk
      subst hr
      go_enter Tryz.func108, Tryz.ntmps108
      go_wp2
      exact bodyPost_ret (v := .tuple #[.int .i64 2, .int .i64 (n - 256)]) (by simp [results, Tryz.results108, go_sem]; try omega) rfl ⟨by rw [HE.out], rfl⟩
    · rw [if_neg b] at hr hk
      by_cases c : 512 ≤ n ∧ n ≤ 767
      · rw [if_pos c] at hr hk
        have HE := Lib.hid hk
        have HC := Lib.hid (decide_eq_true c)
        clear hk
        subst hr
        have c1 := c.1
        have c2 := c.2
        clear c
        go_enter Tryz.func108, Tryz.ntmps108
        go_wp2_with (first | (go_at_call 38; refine (l01InF _ _).mono ?_; rintro e w' ⟨rfl, rfl⟩; rw [HC.out]))
        exact bodyPost_ret (v := .tuple #[.int .i64 3, .int .i64 (n - 512)]) (by simp [results, Tryz.results108, go_sem]; try omega) rfl ⟨by rw [HE.out], rfl⟩
      · rw [if_neg c] at hr hk
        have HC := Lib.hid (decide_eq_false c)
        clear c
        subst hr hk
        go_enter Tryz.func108, Tryz.ntmps108
        go_wp2_with (first | (go_at_call 38; refine (l01InF _ _).mono ?_; rintro e w' ⟨rfl, rfl⟩; rw [HC.out]))
        exact bodyPost_ret (v := .tuple #[.int .i64 0, .int .i64 0]) (by simp [results, Tryz.results108, go_sem]) rfl ⟨rfl, rfl⟩

set_option maxRecDepth 100000 in
set_option maxHeartbeats 1000000 in
theorem l05Bytes (A : Option Addr) (n c : Nat) (zs : List Int) (w : World) (hl : zs.length = n) (hn : n ≤ maxLen) (h : IntL w A zs) :
    Calls Tryz.prog 57 #[.slice A n c] w fun e w' => e = .returned (.bool (zs.all byB)) ∧ w = w' := by
  unfold maxLen at hn
  have HL := Lib.hid hl
  have H := Lib.hid h
  clear hl h
  go_enter Tryz.func57, Tryz.ntmps57
  go_wp2
  go_loop [3] (fun i => ∃ k : Nat, k ≤ n ∧ i = .int .i64 k ∧ Hid (zs.all byB = (zs.drop k).all byB)) (fun i => n - (intOf i).toNat)
  case atStart => exact ⟨0, Nat.zero_le _, rfl, Lib.hid rfl⟩
  case round =>
    obtain ⟨k, hk, rfl, HT⟩ := hrel
    by_cases hlt : k < n
    · obtain ⟨b, off, rfl, hc⟩ := H.out k (by rw [HL.out]; exact hlt)
      have HS := Lib.hid (all_step byB zs 0 k (by rw [HL.out]; exact hlt))
      generalize zs.getD k 0 = x at hc HS
      have hi : (k : Int) < (n : Int) := by omega
      by_cases hE : byB x = true
      · go_wp2_with (first | (go_at_call 38; refine (l01In255 _ _).mono ?_; rintro e w' ⟨rfl, rfl⟩; rw [hE]))
        go_round
        case rel => exact ⟨k + 1, by omega, by go_num, Lib.hid (by rw [HT.out, HS.out, hE]; rfl)⟩
        case measure => simp [intOf]; omega
      · have hE' : byB x = false := by simpa using hE
        clear hE
        go_wp2_with (first | (go_at_call 38; refine (l01In255 _ _).mono ?_; rintro e w' ⟨rfl, rfl⟩; rw [hE']))
        go_ret
        exact ⟨ret_bool (by rw [HT.out, HS.out, hE']; rfl), rfl⟩
    · have HT2 : Hid (zs.all byB = true) := Lib.hid (by rw [HT.out]; exact all_end _ _ _ (by rw [HL.out]; omega))
      go_wp2
      go_ret
      exact ⟨ret_bool HT2.out.symm, rfl⟩

section
variable (A0 A1 A2 A3 : Option Addr) (n0 n1 n2 n3 c0 c1 c2 c3 : Nat) (d0 d1 d2 : List Int) (d3 : List Bool) (d4 : Int) (w : World)
set_option maxRecDepth 100000 in
set_option maxHeartbeats 4000000 in
theorem memValid (l0 : d0.length = n0) (l1 : d1.length = n1) (l2 : d2.length = n2) (l3 : d3.length = n3) (m0 : n0 ≤ maxLen) (m1 : n1 ≤ maxLen) (m2 : n2 ≤ maxLen) (m3 : n3 ≤ maxLen) (h0 : IntL w A0 d0) (h1 : IntL w A1 d1) (h2 : IntL w A2 d2) :
    Calls Tryz.prog 21 #[.agg #[.slice A0 n0 c0, .slice A1 n1 c1, .slice A2 n2 c2, .slice A3 n3 c3, .int .i64 d4]] w fun e w' => e = .returned (.bool (okMem d0 d1 d2 d3 d4)) ∧ Below w.heap.size w w' := by
  have hb0 := alloc_below w (.cells #[.slice A0 n0 c0, .slice A1 n1 c1, .slice A2 n2 c2, .slice A3 n3 c3, .int .i64 d4] 31)
  have HB0 := Lib.hid (allBytes A0 n0 c0 d0 _ l0 m0 (h0.below hb0))
  have HB1 := Lib.hid (allBytes A1 n1 c1 d1 _ l1 m1 (h1.below hb0))
  have HF := Lib.hid (flashValid A2 A3 n2 c2 n3 c3 d4 d2 d3 _ l2 l3 m2 m3 (h2.below hb0))
  have HL := Lib.hid (And.intro l0 l1)
  unfold maxLen at m0 m1 m2 m3
  clear l0 l1 l2 l3 h0 h1 h2
  by_cases e0 : n0 = 256
  · have q0 : ((n0 : Int) == 256) = true := by simp; omega
    by_cases e1 : n1 = 32
    · have q1 : ((n1 : Int) == 32) = true := by simp; omega
      by_cases e2 : d0.all byB = true
      · by_cases e3 : d1.all byB = true
        · have HY := Lib.hid (okMem_yes d0 d1 d2 d3 d4 (by rw [HL.out.1]; exact e0) (by rw [HL.out.2]; exact e1) e2 e3)
          rw [e2] at HB0
          rw [e3] at HB1
          generalize okMem d0 d1 d2 d3 d4 = r at HY
          generalize okFlash d2 d3 d4 = o at HF HY
          clear e0 e1 e2 e3
          go_enter Tryz.func21, Tryz.ntmps21
          go_wp2_with fail
          refine HB0.out.mono ?_
          rintro e w' ⟨rfl, rfl⟩
          go_wp2_with fail
          refine HB1.out.mono ?_
          rintro e w' ⟨rfl, rfl⟩
          go_wp2_with fail
          refine HF.out.mono ?_
          rintro e w2 ⟨rfl, hb2⟩
          go_wp2
          all_goals go_ret
          all_goals exact ⟨ret_bool HY.out.symm, bt hb0 hb2⟩
        · have e3' : d1.all byB = false := by simpa using e3
          have HY := Lib.hid (okMem_no4 d0 d1 d2 d3 d4 e3')
          rw [e2] at HB0
          rw [e3'] at HB1
          clear e0 e1 e2 e3 e3'
          go_enter Tryz.func21, Tryz.ntmps21
          go_wp2_with fail
          refine HB0.out.mono ?_
          rintro e w' ⟨rfl, rfl⟩
          go_wp2_with fail
          refine HB1.out.mono ?_
          rintro e w' ⟨rfl, rfl⟩
          go_wp2
          all_goals go_ret
          all_goals exact ⟨ret_bool HY.out.symm, hb0⟩
      · have e2' : d0.all byB = false := by simpa using e2
        have HY := Lib.hid (okMem_no3 d0 d1 d2 d3 d4 e2')
        rw [e2'] at HB0
        clear e0 e1 e2 e2'
        go_enter Tryz.func21, Tryz.ntmps21
        go_wp2_with fail
        refine HB0.out.mono ?_
        rintro e w' ⟨rfl, rfl⟩
        go_wp2
        all_goals go_ret
        all_goals exact ⟨ret_bool HY.out.symm, hb0⟩
    · have q1 : ((n1 : Int) == 32) = false := by simp; omega
      have HY := Lib.hid (okMem_no2 d0 d1 d2 d3 d4 (by rw [HL.out.2]; exact e1))
      clear e0 e1
      go_enter Tryz.func21, Tryz.ntmps21
      go_wp2
      all_goals go_ret
      all_goals exact ⟨ret_bool HY.out.symm, hb0⟩
  · have q0 : ((n0 : Int) == 256) = false := by simp; omega
    have HY := Lib.hid (okMem_no1 d0 d1 d2 d3 d4 (by rw [HL.out.1]; exact e0))
    clear e0
    go_enter Tryz.func21, Tryz.ntmps21
    go_wp2
    all_goals go_ret
    all_goals exact ⟨ret_bool HY.out.symm, hb0⟩

set_option maxRecDepth 100000 in
set_option maxHeartbeats 4000000 in
theorem specMemOK (l0 : d0.length = n0) (l1 : d1.length = n1) (l2 : d2.length = n2) (l3 : d3.length = n3) (m0 : n0 ≤ maxLen) (m1 : n1 ≤ maxLen) (m2 : n2 ≤ maxLen) (m3 : n3 ≤ maxLen) (h0 : IntL w A0 d0) (h1 : IntL w A1 d1) (h2 : IntL w A2 d2) :
    Calls Tryz.prog 26 #[.agg #[.slice A0 n0 c0, .slice A1 n1 c1, .slice A2 n2 c2, .slice A3 n3 c3, .int .i64 d4]] w fun e w' => e = .returned (.bool (okMem d0 d1 d2 d3 d4)) ∧ Below w.heap.size w w' := by
  have hb0 := alloc_below w (.cells #[.slice A0 n0 c0, .slice A1 n1 c1, .slice A2 n2 c2, .slice A3 n3 c3, .int .i64 d4] 31)
  have HB0 := Lib.hid (l05Bytes A0 n0 c0 d0 _ l0 m0 (h0.below hb0))
  have HB1 := Lib.hid (l05Bytes A1 n1 c1 d1 _ l1 m1 (h1.below hb0))
  have HF := Lib.hid (specFlashOK A2 A3 n2 c2 n3 c3 d4 d2 d3 _ l2 l3 m2 m3 (h2.below hb0))
  have HL := Lib.hid (And.intro l0 l1)
  unfold maxLen at m0 m1 m2 m3
  clear l0 l1 l2 l3 h0 h1 h2
  by_cases e0 : n0 = 256
  · have q0 : ((n0 : Int) == 256) = true := by simp; omega
    by_cases e1 : n1 = 32
    · have q1 : ((n1 : Int) == 32) = true := by simp; omega
      by_cases e2 : d0.all byB = true
      · by_cases e3 : d1.all byB = true
        · have HY := Lib.hid (okMem_yes d0 d1 d2 d3 d4 (by rw [HL.out.1]; exact e0) (by rw [HL.out.2]; exact e1) e2 e3)
          rw [e2] at HB0
          rw [e3] at HB1
          generalize okMem d0 d1 d2 d3 d4 = r at HY
          generalize okFlash d2 d3 d4 = o at HF HY
          clear e0 e1 e2 e3
          go_enter Tryz.func26, Tryz.ntmps26
          go_wp2_with fail
          refine HB0.out.mono ?_
          rintro e w' ⟨rfl, rfl⟩
          go_wp2_with fail
          refine HB1.out.mono ?_
          rintro e w' ⟨rfl, rfl⟩
          go_wp2_with fail
          refine HF.out.mono ?_
          rintro e w2 ⟨rfl, hb2⟩
          go_wp2
          all_goals go_ret
          all_goals exact ⟨ret_bool HY.out.symm, bt hb0 hb2⟩
        · have e3' : d1.all byB = false := by simpa using e3
          have HY := Lib.hid (okMem_no4 d0 d1 d2 d3 d4 e3')
          rw [e2] at HB0
          rw [e3'] at HB1
          clear e0 e1 e2 e3 e3'
          go_enter Tryz.func26, Tryz.ntmps26
          go_wp2_with fail
          refine HB0.out.mono ?_
          rintro e w' ⟨rfl, rfl⟩
          go_wp2_with fail
          refine HB1.out.mono ?_
          rintro e w' ⟨rfl, rfl⟩
          go_wp2
          all_goals go_ret
          all_goals exact ⟨ret_bool HY.out.symm, hb0⟩
      · have e2' : d0.all byB = false := by simpa using e2
        have HY := Lib.hid (okMem_no3 d0 d1 d2 d3 d4 e2')
        rw [e2'] at HB0
        clear e0 e1 e2 e2'
        go_enter Tryz.func26, Tryz.ntmps26
        go_wp2_with fail
        refine HB0.out.mono ?_
        rintro e w' ⟨rfl, rfl⟩
        go_wp2
        all_goals go_ret
        all_goals exact ⟨ret_bool HY.out.symm, hb0⟩
    · have q1 : ((n1 : Int) == 32) = false := by simp; omega
      have HY := Lib.hid (okMem_no2 d0 d1 d2 d3 d4 (by rw [HL.out.2]; exact e1))
      clear e0 e1
      go_enter Tryz.func26, Tryz.ntmps26
      go_wp2
      all_goals go_ret
      all_goals exact ⟨ret_bool HY.out.symm, hb0⟩
  · have q0 : ((n0 : Int) == 256) = false := by simp; omega
    have HY := Lib.hid (okMem_no1 d0 d1 d2 d3 d4 (by rw [HL.out.1]; exact e0))
    clear e0
    go_enter Tryz.func26, Tryz.ntmps26
    go_wp2
    all_goals go_ret
    all_goals exact ⟨ret_bool HY.out.symm, hb0⟩
end
end Go.Proofs.YtcchhbkbnbphhaaGreatDoor

/- Rows that a store into a smaller box leaves alone; regions that hand back two structs. -/
namespace Go.Proofs.YtcchhbkbnbphhaaGreatDoor
open Go.RowKit

theorem IntL.offBtw {w w' : World} {A : Option Addr} {zs : List Int} {b : Nat} {t : TypeId} {cs : Array Value} (h : IntL w A zs) (X : Box w b t cs) (hl : cs.size < zs.length) (hb : Btw b (b + 1) w w') : IntL w' A zs := fun i hi => by
  obtain ⟨b1, off, e, hc⟩ := h i hi
  obtain ⟨b2, off2, e2, hc2⟩ := h cs.size hl
  have e3 := e.symm.trans e2
  injection e3 with e3
  injection e3 with e4 e5 _
  subst e4 e5
  refine ⟨b1, off, e, hb.cell hc ?_⟩
  show b1 < b ∨ b + 1 ≤ b1
  rcases Nat.lt_trichotomy b1 b with q | q | q
  · exact .inl q
  · exfalso
    subst q
    rw [cell_of_row _ _ _ _ _ _ X, Array.getElem?_eq_none (by omega)] at hc2
    cases hc2
  · exact .inr q
theorem BoolL.offBtw {w w' : World} {A : Option Addr} {zs : List Bool} {b : Nat} {t : TypeId} {cs : Array Value} (h : BoolL w A zs) (X : Box w b t cs) (hl : cs.size < zs.length) (hb : Btw b (b + 1) w w') : BoolL w' A zs := fun i hi => by
  obtain ⟨b1, off, e, hc⟩ := h i hi
  obtain ⟨b2, off2, e2, hc2⟩ := h cs.size hl
  have e3 := e.symm.trans e2
  injection e3 with e3
  injection e3 with e4 e5 _
  subst e4 e5
  refine ⟨b1, off, e, hb.cell hc ?_⟩
  show b1 < b ∨ b + 1 ≤ b1
  rcases Nat.lt_trichotomy b1 b with q | q | q
  · exact .inl q
  · exfalso
    subst q
    rw [cell_of_row _ _ _ _ _ _ X, Array.getElem?_eq_none (by omega)] at hc2
    cases hc2
  · exact .inr q
theorem IntL.offBtw2 {w w' : World} {A : Option Addr} {zs : List Int} {b : Nat} {t t' : TypeId} {cs cs' : Array Value} (h : IntL w A zs) (X : Box w b t cs) (Y : Box w (b + 1) t' cs') (hl : cs.size < zs.length) (hl' : cs'.size < zs.length) (hb : Btw b (b + 1 + 1) w w') : IntL w' A zs := fun i hi => by
  obtain ⟨b1, off, e, hc⟩ := h i hi
  refine ⟨b1, off, e, hb.cell hc ?_⟩
  show b1 < b ∨ b + 1 + 1 ≤ b1
  by_cases q1 : b1 = b
  · exfalso
    subst q1
    obtain ⟨b2, off2, e2, hc2⟩ := h cs.size hl
    have e3 := e.symm.trans e2
    injection e3 with e3
    injection e3 with e4 e5 _
    subst e4 e5
    rw [cell_of_row _ _ _ _ _ _ X, Array.getElem?_eq_none (by omega)] at hc2
    cases hc2
  · by_cases q2 : b1 = b + 1
    · exfalso
      subst q2
      obtain ⟨b2, off2, e2, hc2⟩ := h cs'.size hl'
      have e3 := e.symm.trans e2
      injection e3 with e3
      injection e3 with e4 e5 _
      subst e4 e5
      rw [cell_of_row _ _ _ _ _ _ Y, Array.getElem?_eq_none (by omega)] at hc2
      cases hc2
    · omega
theorem BoolL.offBtw2 {w w' : World} {A : Option Addr} {zs : List Bool} {b : Nat} {t t' : TypeId} {cs cs' : Array Value} (h : BoolL w A zs) (X : Box w b t cs) (Y : Box w (b + 1) t' cs') (hl : cs.size < zs.length) (hl' : cs'.size < zs.length) (hb : Btw b (b + 1 + 1) w w') : BoolL w' A zs := fun i hi => by
  obtain ⟨b1, off, e, hc⟩ := h i hi
  refine ⟨b1, off, e, hb.cell hc ?_⟩
  show b1 < b ∨ b + 1 + 1 ≤ b1
  by_cases q1 : b1 = b
  · exfalso
    subst q1
    obtain ⟨b2, off2, e2, hc2⟩ := h cs.size hl
    have e3 := e.symm.trans e2
    injection e3 with e3
    injection e3 with e4 e5 _
    subst e4 e5
    rw [cell_of_row _ _ _ _ _ _ X, Array.getElem?_eq_none (by omega)] at hc2
    cases hc2
  · by_cases q2 : b1 = b + 1
    · exfalso
      subst q2
      obtain ⟨b2, off2, e2, hc2⟩ := h cs'.size hl'
      have e3 := e.symm.trans e2
      injection e3 with e3
      injection e3 with e4 e5 _
      subst e4 e5
      rw [cell_of_row _ _ _ _ _ _ Y, Array.getElem?_eq_none (by omega)] at hc2
      cases hc2
    · omega
def RepC (w : World) (A : Option Addr) (d : CD) : Prop := d.Ok ∧ IntL w A d.regs
def RepM (w : World) (A0 A1 A2 A3 : Option Addr) (m : MD) : Prop := m.Ok ∧ IntL w A0 m.r ∧ IntL w A1 m.i ∧ IntL w A2 m.z ∧ BoolL w A3 m.g
theorem RepC.below {w w' : World} {A : Option Addr} {d : CD} (h : RepC w A d) (k : Below w.heap.size w w') : RepC w' A d := ⟨h.1, h.2.below k⟩
theorem RepM.below {w w' : World} {A0 A1 A2 A3 : Option Addr} {m : MD} (h : RepM w A0 A1 A2 A3 m) (k : Below w.heap.size w w') : RepM w' A0 A1 A2 A3 m := ⟨h.1, h.2.1.below k, h.2.2.1.below k, h.2.2.2.1.below k, h.2.2.2.2.below k⟩
theorem RepC.off {w w' : World} {A : Option Addr} {d : CD} (h : RepC w A d) {b : Nat} {t : TypeId} {cs : Array Value} (X : Box w b t cs) (hl : cs.size < 16) (hb : Btw b (b + 1) w w') : RepC w' A d := ⟨h.1, h.2.offBtw X (by rw [h.1.len]; exact hl) hb⟩
theorem RepM.off {w w' : World} {A0 A1 A2 A3 : Option Addr} {m : MD} (h : RepM w A0 A1 A2 A3 m) {b : Nat} {t : TypeId} {cs : Array Value} (X : Box w b t cs) (hl : cs.size < 16) (hb : Btw b (b + 1) w w') : RepM w' A0 A1 A2 A3 m :=
  ⟨h.1, h.2.1.offBtw X (by rw [h.1.r]; omega) hb, h.2.2.1.offBtw X (by rw [h.1.i]; omega) hb, h.2.2.2.1.offBtw X (by rw [h.1.z]; omega) hb, h.2.2.2.2.offBtw X (by rw [h.1.g]; omega) hb⟩
theorem RepC.off2 {w w' : World} {A : Option Addr} {d : CD} (h : RepC w A d) {b : Nat} {t t' : TypeId} {cs cs' : Array Value} (X : Box w b t cs) (Y : Box w (b + 1) t' cs') (hl : cs.size < 16) (hl' : cs'.size < 16) (hb : Btw b (b + 1 + 1) w w') : RepC w' A d := ⟨h.1, h.2.offBtw2 X Y (by rw [h.1.len]; exact hl) (by rw [h.1.len]; exact hl') hb⟩
theorem RepM.off2 {w w' : World} {A0 A1 A2 A3 : Option Addr} {m : MD} (h : RepM w A0 A1 A2 A3 m) {b : Nat} {t t' : TypeId} {cs cs' : Array Value} (X : Box w b t cs) (Y : Box w (b + 1) t' cs') (hl : cs.size < 16) (hl' : cs'.size < 16) (hb : Btw b (b + 1 + 1) w w') : RepM w' A0 A1 A2 A3 m :=
  ⟨h.1, h.2.1.offBtw2 X Y (by rw [h.1.r]; omega) (by rw [h.1.r]; omega) hb, h.2.2.1.offBtw2 X Y (by rw [h.1.i]; omega) (by rw [h.1.i]; omega) hb, h.2.2.2.1.offBtw2 X Y (by rw [h.1.z]; omega) (by rw [h.1.z]; omega) hb, h.2.2.2.2.offBtw2 X Y (by rw [h.1.g]; omega) (by rw [h.1.g]; omega) hb⟩
theorem Btw.lowSize {lo hi : Nat} {a b : World} (h : Btw lo hi a b) {w : World} (k : Below w.heap.size w a) (hl : lo ≤ a.heap.size) (hw : w.heap.size ≤ lo) : Below w.heap.size w b := k.trans ((h.below hl).mono hw)
theorem Box.setRow {w : World} {b : Nat} {t : TypeId} {cs : Array Value} (X : Box w b t cs) (cs' : Array Value) : Box (w.setRow b cs') b t cs' := by
  unfold Box at X ⊢
  simp [World.setRow, Array.getElem?_modify, X]
theorem btw_setRow {lo hi : Nat} {a w : World} (h : Btw lo hi a w) {b : Nat} (h1 : lo ≤ b) (h2 : b < hi) (cs : Array Value) : Btw lo hi a (w.setRow b cs) :=
  h.trans ⟨rfl, rfl, rfl, by simp [World.setRow], fun k _ ho => setRow_other w b k cs (by omega)⟩
theorem Box.farRow {w : World} {b b' : Nat} {t : TypeId} {cs : Array Value} (X : Box w b t cs) (hb : b ≠ b') (cs' : Array Value) : Box (w.setRow b' cs') b t cs := (setRow_other w b' b cs' hb).trans X

structure RetC (W0 : World) (bx by' bc bd : Nat) (t1 t2 : TypeId) (cs1 cs2 : Array Value) (W : World) : Prop where
  k : Btw bc (bd + 1) W0 W
  c : ∃ o : Array Value, o.size = cs1.size ∧ Box W bc t1 o
  d : ∃ o : Array Value, o.size = cs2.size ∧ Box W bd t2 o
  x : Box W bx t1 cs1
  y : Box W by' t2 cs2
  q : bx < bc ∧ by' < bc ∧ bc < bd
def RetF (s1 s2 bc bd : Nat) (t1 t2 : TypeId) (cs1 cs2 : Array Value) (iL1 iL2 iS1 iS2 : Nat) (G : Nat → (Nat → Value) → Prop) (k : Nat) (t : Nat → Value) (W : World) : Prop :=
  if k = iL1 then t s1 = .agg cs1 else if k = iL2 then t s2 = .agg cs2 else if k = iS1 then Box W bc t1 cs1 else if k = iS2 then Box W bd t2 cs2 else G k t
section
variable {P : Program} {Q : Exit → Act → World → Prop} {sup bef : List (List Nat)} {base : List Nat} {a : Act} {W0 : World} {bx by' bc bd s1 s2 : Nat} {t1 t2 : TypeId} {cs1 cs2 : Array Value} {iL1 iL2 iS1 iS2 : Nat} {G : Nat → (Nat → Value) → Prop}
theorem mask_put (l : List Nat) (s : Nat) (h : l.contains s = true) (T : Array Value) (a : Act) (v : Value) (hs : s < T.size) : mask l (Act.put { a with tmps := T } (some s) v).tmps s = v := by
  unfold mask
  rw [if_pos h]
  simp only [Act.put, Array.getD_eq_getD_getElem?]
  rw [Array.getElem?_setIfInBounds, if_pos rfl, if_pos hs]
  rfl
theorem ret_load1 {i : Nat} {o : Oper} (hi0 : i = iL1) (x : Nat) (ho : o.op = .load t1 (.tmp x)) (hd : o.dst = some s1) (hx : x ∈ base) (hp : a.tmps.getD x undef = .pointer (some ⟨bx, 0, none⟩)) (d : TypeDesc) (hu : P.underlying t1 = some d)
    (hdd : (match d with | .struct _ | .array _ _ => true | _ => false) = true) (hi : (P.info? t1).map (·.size) = some cs1.size) (hs : (sup.getD i []).contains s1 = true) (hlt : s1 < a.tmps.size) :
    StepF P Q sup bef base a (RetC W0 bx by' bc bd t1 t2 cs1 cs2) (RetF s1 s2 bc bd t1 t2 cs1 cs2 iL1 iL2 iS1 iS2 G) i o := by
  intro T W hT hb hc hf K hK
  refine wp_load_row t1 (.tmp x) ho bx ?_ t1 cs1 (0, 0) d hc.x hu hdd hi ?_
  · show T.getD x undef = _
    rw [hb x hx, hp]
  · refine hK.out _ W hc (fun _ _ _ h => h) ?_
    unfold RetF
    rw [if_pos hi0, hd]
    exact mask_put _ _ hs _ _ _ (by rw [hT]; exact hlt)
theorem ret_load2 {i : Nat} {o : Oper} (hi0 : i = iL2) (hi1 : i ≠ iL1) (x : Nat) (ho : o.op = .load t2 (.tmp x)) (hd : o.dst = some s2) (hx : x ∈ base) (hp : a.tmps.getD x undef = .pointer (some ⟨by', 0, none⟩)) (d : TypeDesc) (hu : P.underlying t2 = some d)
    (hdd : (match d with | .struct _ | .array _ _ => true | _ => false) = true) (hi : (P.info? t2).map (·.size) = some cs2.size) (hs : (sup.getD i []).contains s2 = true) (hlt : s2 < a.tmps.size) :
    StepF P Q sup bef base a (RetC W0 bx by' bc bd t1 t2 cs1 cs2) (RetF s1 s2 bc bd t1 t2 cs1 cs2 iL1 iL2 iS1 iS2 G) i o := by
  intro T W hT hb hc hf K hK
  refine wp_load_row t2 (.tmp x) ho by' ?_ t2 cs2 (0, 0) d hc.y hu hdd hi ?_
  · show T.getD x undef = _
    rw [hb x hx, hp]
  · refine hK.out _ W hc (fun _ _ _ h => h) ?_
    unfold RetF
    rw [if_neg hi1, if_pos hi0, hd]
    exact mask_put _ _ hs _ _ _ (by rw [hT]; exact hlt)
theorem mask_get {l : List Nat} {T : Array Value} {s : Nat} {v : Value} (hl : l.contains s = true) (h : mask l T s = v) : T.getD s undef = v := by
  unfold mask at h
  rwa [if_pos hl] at h
theorem ret_store1 {i : Nat} {o : Oper} (hi0 : i = iS1) (hi1 : i ≠ iL1) (hi2 : i ≠ iL2) (x : Nat) (ho : o.op = .store t1 (.tmp x) (.tmp s1)) (hx : x ∈ base) (hp : a.tmps.getD x undef = .pointer (some ⟨bc, 0, none⟩))
    (hb1 : iL1 ∈ bef.getD i []) (hs : (sup.getD iL1 []).contains s1 = true) (hi : (P.info? t1).map (·.size) = some cs1.size) (h1 : cs1.all (·.oneCell') = true) :
    StepF P Q sup bef base a (RetC W0 bx by' bc bd t1 t2 cs1 cs2) (RetF s1 s2 bc bd t1 t2 cs1 cs2 iL1 iL2 iS1 iS2 G) i o := by
  intro T W hT hb hc hf K hK
  obtain ⟨old, hos, hox⟩ := hc.c
  have hf1 := hf iL1 hb1
  unfold RetF at hf1
  rw [if_pos rfl] at hf1
  refine wp_store_row t1 (.tmp x) (.tmp s1) ho bc cs1 ?_ ?_ t1 old hox hi hos h1 ?_
  · show T.getD x undef = _
    rw [hb x hx, hp]
  · exact mask_get hs hf1
  · obtain ⟨q1, q2, q3⟩ := hc.q
    refine hK.out _ _ ⟨btw_setRow hc.k (Nat.le_refl _) (by omega) _, ⟨_, rfl, hox.setRow _⟩, ?_, hc.x.farRow (by omega) _, hc.y.farRow (by omega) _, hc.q⟩ (fun j t hj h => ?_) ?_
    · obtain ⟨o2, ho2, hx2⟩ := hc.d
      exact ⟨o2, ho2, hx2.farRow (by omega) _⟩
    · unfold RetF at h ⊢
      by_cases j1 : j = iL1
      · rw [if_pos j1] at h ⊢; exact h
      · rw [if_neg j1] at h ⊢
        by_cases j2 : j = iL2
        · rw [if_pos j2] at h ⊢; exact h
        · rw [if_neg j2] at h ⊢
          rw [if_neg (by omega)] at h ⊢
          by_cases j4 : j = iS2
          · rw [if_pos j4] at h ⊢; exact h.farRow (by omega) _
          · rw [if_neg j4] at h ⊢; exact h
    · unfold RetF
      rw [if_neg hi1, if_neg hi2, if_pos hi0]
      exact hox.setRow _
theorem ret_store2 {i : Nat} {o : Oper} (hi0 : i = iS2) (hi1 : i ≠ iL1) (hi2 : i ≠ iL2) (hi3 : i ≠ iS1) (hn : iL2 ≠ iL1) (x : Nat) (ho : o.op = .store t2 (.tmp x) (.tmp s2)) (hx : x ∈ base) (hp : a.tmps.getD x undef = .pointer (some ⟨bd, 0, none⟩))
    (hb1 : iL2 ∈ bef.getD i []) (hs : (sup.getD iL2 []).contains s2 = true) (hi : (P.info? t2).map (·.size) = some cs2.size) (h1 : cs2.all (·.oneCell') = true) :
    StepF P Q sup bef base a (RetC W0 bx by' bc bd t1 t2 cs1 cs2) (RetF s1 s2 bc bd t1 t2 cs1 cs2 iL1 iL2 iS1 iS2 G) i o := by
  intro T W hT hb hc hf K hK
  obtain ⟨old, hos, hox⟩ := hc.d
  have hf1 := hf iL2 hb1
  unfold RetF at hf1
  rw [if_neg hn, if_pos rfl] at hf1
  refine wp_store_row t2 (.tmp x) (.tmp s2) ho bd cs2 ?_ ?_ t2 old hox hi hos h1 ?_
  · show T.getD x undef = _
    rw [hb x hx, hp]
  · exact mask_get hs hf1
  · obtain ⟨q1, q2, q3⟩ := hc.q
    refine hK.out _ _ ⟨btw_setRow hc.k (by omega) (by omega) _, ?_, ⟨_, rfl, hox.setRow _⟩, hc.x.farRow (by omega) _, hc.y.farRow (by omega) _, hc.q⟩ (fun j t hj h => ?_) ?_
    · obtain ⟨o2, ho2, hx2⟩ := hc.c
      exact ⟨o2, ho2, hx2.farRow (by omega) _⟩
    · unfold RetF at h ⊢
      by_cases j1 : j = iL1
      · rw [if_pos j1] at h ⊢; exact h
      · rw [if_neg j1] at h ⊢
        by_cases j2 : j = iL2
        · rw [if_pos j2] at h ⊢; exact h
        · rw [if_neg j2] at h ⊢
          by_cases j3 : j = iS1
          · rw [if_pos j3] at h ⊢; exact h.farRow (by omega) _
          · rw [if_neg j3] at h ⊢
            rw [if_neg (by omega)] at h ⊢; exact h
    · unfold RetF
      rw [if_neg hi1, if_neg hi2, if_neg hi3, if_pos hi0]
      exact hox.setRow _
end
theorem and_any (n : Int) (k : Nat) (hk : k ≤ 62) : bits .and .i64 n (((2 ^ k - 1 : Nat) : Int)) = n % (2 ^ k : Nat) := by
  have hlt : 2 ^ k ≤ 2 ^ 62 := Nat.pow_le_pow_right (by omega) hk
  have h15 : (BitVec.ofInt 64 (((2 ^ k - 1 : Nat) : Int))).toNat = 2 ^ k - 1 := by
    rw [BitVec.toNat_ofInt]
    have : 2 ^ k ≥ 1 := Nat.one_le_two_pow
    omega
  have key : (BitVec.ofInt 64 n &&& BitVec.ofInt 64 (((2 ^ k - 1 : Nat) : Int))).toNat = (n % ((2 ^ 64 : Nat) : Int)).toNat % 2 ^ k := by
    rw [BitVec.toNat_and, BitVec.toNat_ofInt, h15, Nat.and_two_pow_sub_one_eq_mod]
  show IntKind.i64.wrap ((BitVec.ofInt 64 n &&& BitVec.ofInt 64 (((2 ^ k - 1 : Nat) : Int))).toNat : Nat) = n % (2 ^ k : Nat)
  rw [key, IntKind.wrap_i64]
  have hd : (2 ^ 64 : Nat) = 2 ^ k * 2 ^ (64 - k) := by rw [← Nat.pow_add]; congr 1; omega
  have hp : 0 < (2 : Nat) ^ k := Nat.two_pow_pos k
  have h1 : (((n % ((2 ^ 64 : Nat) : Int)).toNat % 2 ^ k : Nat) : Int) = n % ((2 ^ k : Nat) : Int) := by
    rw [Int.natCast_emod, Int.toNat_of_nonneg (Int.emod_nonneg _ (by decide))]
    exact Int.emod_emod_of_dvd n ⟨((2 ^ (64 - k) : Nat) : Int), by rw [hd]; push_cast; rfl⟩
  rw [h1]
  have h2 : 0 ≤ n % ((2 ^ k : Nat) : Int) := Int.emod_nonneg _ (by omega)
  have h3 : n % ((2 ^ k : Nat) : Int) < ((2 ^ k : Nat) : Int) := Int.emod_lt_of_pos _ (by omega)
  omega
theorem and_255 (n : Int) : bits .and .i64 n 255 = n % 256 := and_any n 8 (by omega)
theorem setL9 (l : List Value) (hs : l.length = 9) (u0 u1 u2 u3 u4 u5 u6 u7 u8 : Value) : (((((((((l.set 0 u0).set 1 u1).set 2 u2).set 3 u3).set 4 u4).set 5 u5).set 6 u6).set 7 u7).set 8 u8) = [u0, u1, u2, u3, u4, u5, u6, u7, u8] := by
  match l, hs with
  | [v0, v1, v2, v3, v4, v5, v6, v7, v8], _ => simp only [List.set_cons_zero, List.set_cons_succ]
theorem setA9 (cs : Array Value) (hs : cs.size = 9) (u0 u1 u2 u3 u4 u5 u6 u7 u8 : Value) : (((((((((cs.setIfInBounds 0 u0).setIfInBounds 1 u1).setIfInBounds 2 u2).setIfInBounds 3 u3).setIfInBounds 4 u4).setIfInBounds 5 u5).setIfInBounds 6 u6).setIfInBounds 7 u7).setIfInBounds 8 u8) = #[u0, u1, u2, u3, u4, u5, u6, u7, u8] := by
  obtain ⟨l⟩ := cs
  simp only [List.setIfInBounds_toArray]
  rw [setL9 l hs]
theorem Box.allN9 {w : World} {b : Nat} {t : TypeId} {cs : Array Value} (X : Box w b t cs) (hs : cs.size = 9) (u0 u1 u2 u3 u4 u5 u6 u7 u8 : Value) : Box (((((((((w.setCell ⟨b, 0, none⟩ u0).setCell ⟨b, 1, none⟩ u1).setCell ⟨b, 2, none⟩ u2).setCell ⟨b, 3, none⟩ u3).setCell ⟨b, 4, none⟩ u4).setCell ⟨b, 5, none⟩ u5).setCell ⟨b, 6, none⟩ u6).setCell ⟨b, 7, none⟩ u7).setCell ⟨b, 8, none⟩ u8) b t #[u0, u1, u2, u3, u4, u5, u6, u7, u8] :=
  setA9 cs hs u0 u1 u2 u3 u4 u5 u6 u7 u8 ▸ (((((((((X.set 0 u0).set 1 u1).set 2 u2).set 3 u3).set 4 u4).set 5 u5).set 6 u6).set 7 u7).set 8 u8)
theorem setL5 (l : List Value) (hs : l.length = 5) (u0 u1 u2 u3 u4 : Value) : (((((l.set 0 u0).set 1 u1).set 2 u2).set 3 u3).set 4 u4) = [u0, u1, u2, u3, u4] := by
  match l, hs with
  | [v0, v1, v2, v3, v4], _ => simp only [List.set_cons_zero, List.set_cons_succ]
theorem setA5 (cs : Array Value) (hs : cs.size = 5) (u0 u1 u2 u3 u4 : Value) : (((((cs.setIfInBounds 0 u0).setIfInBounds 1 u1).setIfInBounds 2 u2).setIfInBounds 3 u3).setIfInBounds 4 u4) = #[u0, u1, u2, u3, u4] := by
  obtain ⟨l⟩ := cs
  simp only [List.setIfInBounds_toArray]
  rw [setL5 l hs]
theorem Box.allN5 {w : World} {b : Nat} {t : TypeId} {cs : Array Value} (X : Box w b t cs) (hs : cs.size = 5) (u0 u1 u2 u3 u4 : Value) : Box (((((w.setCell ⟨b, 0, none⟩ u0).setCell ⟨b, 1, none⟩ u1).setCell ⟨b, 2, none⟩ u2).setCell ⟨b, 3, none⟩ u3).setCell ⟨b, 4, none⟩ u4) b t #[u0, u1, u2, u3, u4] :=
  setA5 cs hs u0 u1 u2 u3 u4 ▸ (((((X.set 0 u0).set 1 u1).set 2 u2).set 3 u3).set 4 u4)
theorem results_cc {P : Program} {fn : Func} {tmps : Array Value} {w : World} {x y b1 b2 : Nat} {t1 t2 : TypeId} {cs1 cs2 : Array Value} {d1 d2 : TypeDesc} (h : fn.results = #[.cell x t1, .cell y t2])
    (hx : tmps.getD x undef = .pointer (some ⟨b1, 0, none⟩)) (hy : tmps.getD y undef = .pointer (some ⟨b2, 0, none⟩)) (X : Box w b1 t1 cs1) (Y : Box w b2 t2 cs2)
    (hu1 : P.underlying t1 = some d1) (hd1 : (match d1 with | .struct _ | .array _ _ => true | _ => false) = true) (hi1 : (P.info? t1).map (·.size) = some cs1.size)
    (hu2 : P.underlying t2 = some d2) (hd2 : (match d2 with | .struct _ | .array _ _ => true | _ => false) = true) (hi2 : (P.info? t2).map (·.size) = some cs2.size) :
    (results fn tmps).run P w = .ok (.tuple #[.agg cs1, .agg cs2]) w := by
  unfold results
  rw [h]
  simp only [List.mapM_toArray, List.mapM_cons, List.mapM_nil, hx, hy]
  simp [asAddr, run_loadVar_row w b1 t1 t1 cs1 (0, 0) d1 X hu1 hd1 hi1, run_loadVar_row w b2 t2 t2 cs2 (0, 0) d2 Y hu2 hd2 hi2]
end Go.Proofs.YtcchhbkbnbphhaaGreatDoor

/- slices.Clone of a row of ints that is not empty; the chip's read. -/
namespace Go.Proofs.YtcchhbkbnbphhaaGreatDoor
open Go.RowKit

def GivesRow (n : Nat) (zs : List Int) (w : World) (e : Ending) (w' : World) : Prop :=
  ∃ A c, e = .returned (.slice A n c) ∧ Hid (OwnI w' w.heap.size w'.heap.size A zs) ∧ Below w.heap.size w w'

set_option maxRecDepth 100000 in
set_option maxHeartbeats 1000000 in
theorem cloneI (A : Option Addr) (n c : Nat) (zs : List Int) (w : World) (hl : zs.length = n) (hn : 0 < n) (hn2 : n ≤ 256) (h : IntL w A zs) :
    Calls Tryz.prog 49 #[.slice A n c] w (GivesRow n zs w) := by
  obtain ⟨ad, rfl, -⟩ := h.src (by omega)
  have HS := Lib.hid (fun W (hb : Below w.heap.size w W) => (h.below hb).src (by omega))
  have HC : Hid ((cellsI zs).length = n * 1) := Lib.hid (by rw [cellsI_len]; omega)
  have hba := alloc_below w (.cells #[] 3)
  have hnil : ∀ W : World, (binOp .eql 23 (.slice (some ad) n c) (.slice none 0 0)).run Tryz.prog W = .ok (.bool false) W := fun W => Lib.run_eql_slice_nil W _ _ (some ad) n c 0 0 Tryz.underlying23
  clear hl h
  go_enter Tryz.func49, Tryz.ntmps49
  go_wp2_with (first | (with_reducible refine wpList_app_fresh rfl (.tmp 5) (.tmp 6) 23 rfl 3 (.int .i64 0) 1 8 Tryz.underlying23 infoIx rfl (by decide) _ rfl (some ad) n c hn (cellsI zs) rfl HC.out (HS.out _ hba) (by unfold maxLen; omega) (by omega) ?_))
  intro A1 c1 w1 hb1 O1
  have hk1 := hba.trans (hb1.mono (by omega))
  have S1 := Lib.hid (ownI_fresh (lo := w.heap.size) O1.out hn (by omega))
  clear HS HC hba hb1 O1
  go_wp2
  go_ret
  exact ⟨_, _, rfl, S1, hk1⟩
end Go.Proofs.YtcchhbkbnbphhaaGreatDoor
