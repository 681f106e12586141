package tests

import (
	"fmt"
	"strings"
	"testing"

	"loop.example/g00563/impl"
)

// Every instruction in every bank, with Zero, Carry and On set and not set, at the start of the flash and in the work memory.
func TestStepOfEveryInstruction(t *testing.T) {
	for _, x := range edgeInstrs() {
		for _, at := range []int{512, 70} {
			m := placed(patternMem(patternFlash(impl.StRead, 1)), at, codeOf(x)...)
			for bank := range cpuBanks {
				for _, c := range everyMarks(withBank(cpuAt(at), bank)) {
					wantStep(t, fmt.Sprint(lineOf(x), " at ", at), c, m)
				}
			}
		}
	}
}

func TestStepOfEveryArg(t *testing.T) {
	for op, row := range opRows() {
		for _, arg := range row.everyArg() {
			m := placedInstr(memOf(erasedFlash(0)), 512, op, 0, arg)
			wantStep(t, fmt.Sprint(row.word, " with ", arg), cpuAt(512), m)
		}
	}
}

// lineStep performs one instruction at the start of the flash.
func lineStep(t *testing.T, c impl.Cpu, line string) (before, after impl.Cpu) {
	t.Helper()
	before = cpuWith(c, func(c *impl.Cpu) { c.Pc = 512 })
	after, _ = wantStep(t, line, before, placedLines(t, patternMem(patternFlash(impl.StRead)), 512, line))
	return before, after
}

func TestStepThatLeavesZeroAndCarry(t *testing.T) {
	lines := []string{"nop", "halt", "ei", "di", "ldi 0 0", "ldi 1 255", "st 0 40", "st 3 270", "st 2 512", "jp 0", "jz 700", "jnz 700",
		"call 700", "ret", "swi 0", "swi 255", "bank 0", "bank 3"}
	for _, line := range lines {
		for _, c := range everyMarks(patternCpu()) {
			before, after := lineStep(t, c, line)
			if after.Zero != before.Zero || after.Carry != before.Carry || after.Level != before.Level {
				t.Errorf("%s changes flags: %+v, before it %+v", line, after, before)
			}
			if line != "ei" && line != "di" && after.On != before.On {
				t.Error(line, "changes On")
			}
		}
	}
}

func TestStepsThatSetOn(t *testing.T) {
	for _, c := range everyMarks(patternCpu()) {
		before, after := lineStep(t, c, "ei")
		wantCpu(t, "ei", after, cpuWith(before, func(c *impl.Cpu) { c.Pc, c.On = 513, true }), impl.OK)
		before, after = lineStep(t, c, "di")
		wantCpu(t, "di", after, cpuWith(before, func(c *impl.Cpu) { c.Pc, c.On = 513, false }), impl.OK)
	}
}

func TestStepOfBank(t *testing.T) {
	for from := range cpuBanks {
		for to := range cpuBanks {
			before, after := lineStep(t, withBank(patternCpu(), from), fmt.Sprint("bank ", to))
			wantCpu(t, fmt.Sprint("bank ", to), after, cpuWith(before, func(c *impl.Cpu) { c.Pc, c.Bank = 514, to }), impl.OK)
		}
	}
}

func TestStepOfLdi(t *testing.T) {
	for place := range cpuRegisters {
		for _, v := range []int{0, 1, 127, 128, 254, 255} {
			c := withBank(patternCpu(), place/4)
			before, after := lineStep(t, c, fmt.Sprint("ldi ", place%4, " ", v))
			want := cpuWith(before, func(c *impl.Cpu) { c.Pc, c.Regs[place] = 514, v })
			wantCpu(t, fmt.Sprint("ldi of ", v, " to place ", place), after, want, impl.OK)
		}
	}
}

func TestStepOfJumps(t *testing.T) {
	for _, zero := range []bool{false, true} {
		for _, carry := range []bool{false, true} {
			c := withMarks(patternCpu(), zero, carry, false)
			for _, to := range []int{0, 255, 256, 512, 515, 1000, 4095} {
				targets := map[string]int{"jp": to, "jz": 515, "jnz": 515}
				if zero {
					targets["jz"] = to
				} else {
					targets["jnz"] = to
				}
				for word, want := range targets {
					line := fmt.Sprint(word, " ", to)
					before, after := lineStep(t, c, line)
					wantCpu(t, line, after, cpuWith(before, func(c *impl.Cpu) { c.Pc = want }), impl.OK)
				}
			}
		}
	}
}

func TestStepOfASwi(t *testing.T) {
	for n := range 256 {
		c, m := loaded(t, fmt.Sprint("swi ", n))
		x, y, cycles, swi, code := impl.StepCpu(c, m)
		if !equalCpus(x, cpuWith(c, func(c *impl.Cpu) { c.Pc = 514 })) || !equalMems(y, m) || cycles != 12 || swi != n || code != impl.OK {
			t.Error("swi", n, "is", x, cycles, swi, code)
		}
	}
}

func TestStepCyclesAndNoSwi(t *testing.T) {
	want := map[string]int{"nop": 2, "halt": 2, "reti": 8, "ei": 2, "di": 2, "ldi 0 1": 4, "ld 0 1": 6, "st 0 1": 6, "inc 0": 2, "dec 0": 2, "add 1": 2,
		"sub 1": 2, "and 1": 2, "or 1": 2, "xor 1": 2, "jp 9": 6, "jz 9": 6, "jnz 9": 6, "call 9": 8, "ret": 8, "bank 1": 4}
	for line, n := range want {
		for _, c := range everyMarks(cpuAt(512)) {
			_, _, cycles, swi, code := impl.StepCpu(c, placedLines(t, memOf(erasedFlash(0)), 512, line))
			if cycles != n || swi != -1 || code != impl.OK {
				t.Error(line, "takes", cycles, "cycles, not", n, "; swi", swi, "code", code)
			}
		}
	}
	_, m := loaded(t)
	if _, _, cycles, swi, code := impl.StepCpu(startCpu(), m); cycles != 12 || swi != -1 || code != impl.OK {
		t.Error("a trap takes", cycles, "cycles; swi", swi, "code", code)
	}
}

func TestStepOfAHaltedProcessor(t *testing.T) {
	for _, x := range validCpus() {
		c := withHalt(x.cpu, true)
		for _, line := range []string{"nop", "swi 9", "st 0 40", "call 700", "reti", "halt", "inc 0"} {
			m := placedLines(t, patternMem(patternFlash(impl.StRead)), c.Pc, line)
			wantStepped(t, "halted at "+line+", "+x.name, c, m, stepResult{c, m, 4, -1})
		}
	}
	for _, x := range validMems() {
		c := withHalt(patternCpu(), true)
		wantStepped(t, "halted, "+x.name, c, x.mem, stepResult{c, x.mem, 4, -1})
	}
}

func TestStepOfHalt(t *testing.T) {
	before, after := lineStep(t, patternCpu(), "halt")
	wantCpu(t, "halt", after, cpuWith(before, func(c *impl.Cpu) { c.Pc, c.Halt = 513, true }), impl.OK)
}

func TestStepOfNop(t *testing.T) {
	for _, x := range validCpus() {
		before, after := lineStep(t, withHalt(x.cpu, false), "nop")
		wantCpu(t, "nop, "+x.name, after, cpuWith(before, func(c *impl.Cpu) { c.Pc = 513 }), impl.OK)
	}
}

func TestStepOfValidProcessorsAndMemories(t *testing.T) {
	for _, x := range validCpus() {
		for _, y := range validMems() {
			wantStep(t, x.name+" and "+y.name, x.cpu, y.mem)
		}
	}
}

func TestStepOfInvalidArguments(t *testing.T) {
	m := placedLines(t, memOf(erasedFlash(0)), 512, "nop")
	for _, x := range invalidCpus() {
		wantNoStep(t, x.name, x.cpu, m)
		wantNoStep(t, x.name+", halted", withHalt(x.cpu, true), m)
		for _, y := range invalidMems()[:12] {
			wantNoStep(t, x.name+" and "+y.name, x.cpu, y.mem)
		}
	}
	for _, y := range invalidMems() {
		for _, c := range []impl.Cpu{startCpu(), patternCpu(), withHalt(startCpu(), true)} {
			wantNoStep(t, y.name, c, y.mem)
		}
	}
}

// A program that runs through loops, calls, the stack and the memory ends where the text of the document leads by hand.
func TestStepsOfAProgram(t *testing.T) {
	lines := []string{
		"ldi 0 3",  // 512
		"st 0 32",  // 514
		"call 530", // 517
		"dec 0",    // 520
		"jnz 514",  // 521
		"bank 3",   // 524
		"ld 2 33",  // 526
		"halt",     // 529
		"ld 1 33",  // 530
		"inc 1",    // 533
		"st 1 33",  // 534
		"ret",      // 537
	}
	c, m := loaded(t, lines...)
	c, m = wantSteps(t, strings.Join(lines, ", "), c, m, 1+3*8+3)
	want := startCpu()
	want.Pc, want.Bank, want.Halt = 530, 3, true
	want.Regs[1], want.Regs[14] = 3, 3
	wantCpu(t, "the program", c, want, impl.OK)
	if m.Ram[32] != 1 || m.Ram[33] != 3 || m.Ram[254] != 8 || m.Ram[255] != 2 {
		t.Error("the program leaves", m.Ram[32:34], m.Ram[254:])
	}
}
