package tests

import (
	"fmt"
	"testing"

	"loop.example/g00563/impl"
)

// result is what an operation leaves of a and b, written out from the table of chapter 9.
type result struct {
	word        string
	a, b, want  int
	zero, carry bool
}

func twoRegisterResults() []result {
	return []result{
		{"add", 0, 0, 0, true, false},
		{"add", 0, 1, 1, false, false},
		{"add", 0, 255, 255, false, false},
		{"add", 255, 0, 255, false, false},
		{"add", 128, 127, 255, false, false},
		{"add", 127, 128, 255, false, false},
		{"add", 128, 128, 0, true, true},
		{"add", 255, 1, 0, true, true},
		{"add", 1, 255, 0, true, true},
		{"add", 255, 2, 1, false, true},
		{"add", 250, 10, 4, false, true},
		{"add", 255, 255, 254, false, true},
		{"sub", 0, 0, 0, true, false},
		{"sub", 1, 0, 1, false, false},
		{"sub", 255, 0, 255, false, false},
		{"sub", 255, 255, 0, true, false},
		{"sub", 128, 127, 1, false, false},
		{"sub", 127, 128, 255, false, true},
		{"sub", 0, 1, 255, false, true},
		{"sub", 0, 255, 1, false, true},
		{"sub", 0, 128, 128, false, true},
		{"sub", 4, 10, 250, false, true},
		{"and", 0, 0, 0, true, false},
		{"and", 255, 255, 255, false, false},
		{"and", 170, 85, 0, true, false},
		{"and", 12, 10, 8, false, false},
		{"and", 255, 128, 128, false, false},
		{"or", 0, 0, 0, true, false},
		{"or", 0, 1, 1, false, false},
		{"or", 170, 85, 255, false, false},
		{"or", 12, 10, 14, false, false},
		{"or", 128, 0, 128, false, false},
		{"xor", 0, 0, 0, true, false},
		{"xor", 255, 255, 0, true, false},
		{"xor", 12, 10, 6, false, false},
		{"xor", 170, 85, 255, false, false},
		{"xor", 128, 1, 129, false, false},
	}
}

// oneRegisterResults leave Carry as it was, so that their carry does not count.
func oneRegisterResults() []result {
	return []result{
		{"inc", 0, 0, 1, false, false},
		{"inc", 127, 0, 128, false, false},
		{"inc", 254, 0, 255, false, false},
		{"inc", 255, 0, 0, true, false},
		{"dec", 0, 0, 255, false, false},
		{"dec", 1, 0, 0, true, false},
		{"dec", 2, 0, 1, false, false},
		{"dec", 128, 0, 127, false, false},
		{"dec", 255, 0, 254, false, false},
	}
}

func TestFlagsOfTwoRegisters(t *testing.T) {
	for _, r := range twoRegisterResults() {
		for bank := range cpuBanks {
			for reg := 1; reg <= 3; reg++ {
				for _, c := range everyMarks(withReg(withReg(withBank(patternCpu(), bank), 0, r.a), reg, r.b)) {
					line := fmt.Sprint(r.word, " ", reg)
					before, after := lineStep(t, c, line)
					want := cpuWith(before, func(c *impl.Cpu) { c.Pc, c.Regs[4*bank], c.Zero, c.Carry = 513, r.want, r.zero, r.carry })
					wantCpu(t, fmt.Sprint(line, " of ", r.a, " and ", r.b), after, want, impl.OK)
				}
			}
		}
	}
}

func TestFlagsOfOneRegister(t *testing.T) {
	for _, r := range oneRegisterResults() {
		for place := range cpuRegisters {
			for _, c := range everyMarks(withPlace(withBank(patternCpu(), place/4), place, r.a)) {
				line := fmt.Sprint(r.word, " ", place%4)
				before, after := lineStep(t, c, line)
				want := cpuWith(before, func(c *impl.Cpu) { c.Pc, c.Regs[place], c.Zero = 513, r.want, r.zero })
				wantCpu(t, fmt.Sprint(line, " of ", r.a), after, want, impl.OK)
			}
		}
	}
}

func TestFlagsOfRegister0WithItself(t *testing.T) {
	for v := range 256 {
		for _, r := range []result{
			{"add 0", v, v, 2 * v % 256, v == 0 || v == 128, v >= 128},
			{"sub 0", v, v, 0, true, false},
			{"and 0", v, v, v, v == 0, false},
			{"or 0", v, v, v, v == 0, false},
			{"xor 0", v, v, 0, true, false},
		} {
			for _, c := range everyMarks(withReg(patternCpu(), 0, v)) {
				before, after := lineStep(t, c, r.word)
				want := cpuWith(before, func(c *impl.Cpu) { c.Pc, c.Regs[8], c.Zero, c.Carry = 513, r.want, r.zero, r.carry })
				wantCpu(t, fmt.Sprint(r.word, " of ", v), after, want, impl.OK)
			}
		}
	}
}

func TestFlagsOfEveryByteThatIsCounted(t *testing.T) {
	for v := range 256 {
		for _, c := range everyMarks(withReg(patternCpu(), 1, v)) {
			before, after := lineStep(t, c, "inc 1")
			want := cpuWith(before, func(c *impl.Cpu) { c.Pc, c.Regs[9], c.Zero = 513, (v+1)%256, v == 255 })
			wantCpu(t, fmt.Sprint("inc of ", v), after, want, impl.OK)
			before, after = lineStep(t, c, "dec 1")
			want = cpuWith(before, func(c *impl.Cpu) { c.Pc, c.Regs[9], c.Zero = 513, (v+255)%256, v == 1 })
			wantCpu(t, fmt.Sprint("dec of ", v), after, want, impl.OK)
		}
	}
}

// pairResult computes with the numbers alone.
func pairResult(word string, a, b int) result {
	v, carry := 0, false
	switch word {
	case "add":
		v, carry = (a+b)%256, a+b >= 256
	case "sub":
		v, carry = (a+256-b)%256, b > a
	case "and":
		v = a & b
	case "or":
		v = a | b
	case "xor":
		v = a ^ b
	}
	return result{word, a, b, v, v == 0, carry}
}

func TestFlagsOfEveryPair(t *testing.T) {
	for _, word := range []string{"add", "sub", "and", "or", "xor"} {
		c, m := loaded(t, word+" 1")
		for a := range 256 {
			for b := range 256 {
				c.Regs[0], c.Regs[1], c.Zero, c.Carry = a, b, a&1 == 1, b&1 == 1
				x, _, _, _, code := impl.StepCpu(c, m)
				r := pairResult(word, a, b)
				if code != impl.OK || x.Regs[0] != r.want || x.Regs[1] != b || x.Zero != r.zero || x.Carry != r.carry {
					t.Fatal(word, "of", a, "and", b, "is", x, "code", code, "and not", r)
				}
			}
		}
	}
}

func TestFlagsOfLd(t *testing.T) {
	for v := range 256 {
		for _, at := range []int{0, 70, 255, 256, 257, 287, 520, 767} {
			m := placedLines(t, placed(memOf(erasedFlash(0)), at, v), 512, fmt.Sprint("ld 2 ", at))
			for _, c := range everyMarks(cpuAt(512)) {
				x, y := wantStep(t, fmt.Sprint("ld of ", v, " at ", at), c, m)
				want := cpuWith(c, func(c *impl.Cpu) { c.Pc, c.Regs[10], c.Zero = 515, v, v == 0 })
				wantCpu(t, fmt.Sprint("ld of ", v, " at ", at), x, want, impl.OK)
				wantMem(t, "ld", y, m, impl.OK)
			}
		}
	}
}

// Zero tells of the last result, not of registers: a jump behind it depends on that alone.
func TestFlagsDecideJumps(t *testing.T) {
	for _, x := range []struct {
		line string
		zero bool
	}{
		{"dec 1", true}, {"inc 1", false}, {"sub 0", true}, {"xor 0", true}, {"or 0", false}, {"and 3", true}, {"add 3", false},
		{"ld 2 40", true}, {"ld 2 41", false}, {"ldi 1 0", false}, {"st 3 40", false}, {"bank 1", false},
	} {
		c, m := loaded(t, x.line, "jz 700", "jnz 730")
		c.Regs[0], c.Regs[1] = 5, 1
		m.Ram[41] = 1
		c, m = wantSteps(t, x.line, c, m, 2)
		if x.zero != (c.Pc == 700) {
			t.Error("jz after", x.line, "leads to", c.Pc)
		}
		if !x.zero {
			if c, _ = wantStep(t, "jnz", c, m); c.Pc != 730 {
				t.Error("jnz after", x.line, "leads to", c.Pc)
			}
		}
	}
}
