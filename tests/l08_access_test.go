package tests

import (
	"fmt"
	"testing"

	"loop.example/g00563/impl"
)

// The instruction is in the work memory, where it is read whatever the state of the flash is.
func TestLdAndStAtEveryAddress(t *testing.T) {
	for state := range flashStates {
		m := patternMem(patternFlash(state, 0, 5, 15))
		for at := range addressEnd {
			wantStep(t, fmt.Sprint("ld at ", at, " in state ", state), cpuAt(70), placedInstr(m, 70, impl.OpLd, 1, at))
			wantStep(t, fmt.Sprint("st at ", at, " in state ", state), cpuAt(70), placedInstr(m, 70, impl.OpSt, 1, at))
		}
	}
}

func TestStOfEveryByte(t *testing.T) {
	for state := range flashStates {
		m := patternMem(patternFlash(state, 5))
		for _, at := range []int{0, 255, 256, 257, 287, 288, 511, 554, 597, 600, 767, 768, 4095} {
			m := placedInstr(m, 70, impl.OpSt, 3, at)
			for v := range 256 {
				wantStep(t, fmt.Sprint("st of ", v, " at ", at, " in state ", state), withReg(cpuAt(70), 3, v), m)
			}
		}
	}
}

func TestLdOfOpenAddresses(t *testing.T) {
	for _, at := range []int{288, 300, 511, 768, 1000, 4095} {
		c, m := loaded(t, fmt.Sprint("ld 2 ", at), fmt.Sprint("st 1 ", at))
		c, after := wantSteps(t, fmt.Sprint("ld and st at ", at), c, m, 2)
		wantCpu(t, fmt.Sprint("ld and st at ", at), c, cpuWith(startCpu(), func(c *impl.Cpu) { c.Pc, c.Regs[2] = 518, 255 }), impl.OK)
		wantMem(t, fmt.Sprint("st at ", at), after, m, impl.OK)
	}
}

func TestStOfThePad(t *testing.T) {
	c, m := loaded(t, "ldi 0 9", "st 0 256", "ld 1 256", "st 0 257")
	m.Io[0] = 33
	c, after := wantSteps(t, "the pad", c, m, 4)
	if c.Regs[1] != 33 {
		t.Error("the pad is", c.Regs[1])
	}
	wantMem(t, "the pad", after, withIo(m, 1, 9), impl.OK)
}

// storing is the program that performs write cycles of the flash.
func storing(cycles []busCycle) []string {
	var lines []string
	for _, c := range onBus(cycles) {
		lines = append(lines, fmt.Sprint("ldi 0 ", c.v), fmt.Sprint("st 0 ", c.at))
	}
	return lines
}

func TestStPerformsWriteCycles(t *testing.T) {
	f := patternFlash(impl.StRead, 2)
	for _, x := range flashCommands(f) {
		m := placedLines(t, patternMem(f), 70, storing(x.cycles)...)
		c, after := wantSteps(t, x.name, cpuAt(70), m, 2*len(x.cycles))
		wantMem(t, x.name, after, withMemFlash(m, x.want), impl.OK)
		if c.Pc != 70+5*len(x.cycles) {
			t.Error(x.name, "ends at", c.Pc)
		}
	}
}

// A program in the flash that programs a byte reads its own next instructions in every state on the way.
func TestStProgramsTheFlashOfTheProgram(t *testing.T) {
	c, m := loaded(t, storing(programCycles(200, 90))...)
	c, after := wantSteps(t, "programming", c, m, 8)
	wantMem(t, "programming", after, withMemFlash(m, withCell(m.Flash, 200, 90)), impl.OK)
	if c.Pc != 532 {
		t.Error("programming ends at", c.Pc)
	}
}

func TestStOverItsOwnBytes(t *testing.T) {
	for _, at := range []int{70, 71, 72} {
		m := placedLines(t, patternMem(patternFlash(impl.StRead)), 70, fmt.Sprint("st 1 ", at))
		c := withReg(cpuAt(70), 1, 8)
		x, y := wantStep(t, "st over its own bytes", c, m)
		wantCpu(t, "st over its own bytes", x, cpuWith(c, func(c *impl.Cpu) { c.Pc = 73 }), impl.OK)
		wantMem(t, "st over its own bytes", y, withRam(m, at, 8), impl.OK)
		wantSteps(t, fmt.Sprint("once more, after st at ", at), withReg(cpuAt(70), 1, 8), y, 2)
	}
	m := placedLines(t, memOf(erasedFlash(0)), 70, "st 1 70", "jp 70")
	c, m := wantSteps(t, "a halt in place of the st", withReg(cpuAt(70), 1, 8), m, 3)
	if !c.Halt || c.Pc != 71 || m.Ram[70] != 8 {
		t.Error("the new instruction is not executed:", c, m.Ram[70:73])
	}
}

func TestStOverItsOwnBytesInRegisters(t *testing.T) {
	for at := 256; at <= 259; at++ {
		m := placedLines(t, memOf(erasedFlash(0)), 257, fmt.Sprint("st 1 ", at))
		c, y := wantStep(t, "st in the registers", withReg(cpuAt(257), 1, 8), m)
		want := withIo(m, at-256, 8)
		if at == 256 {
			want = m
		}
		wantMem(t, fmt.Sprint("st at ", at), y, want, impl.OK)
		if c.Pc != 260 {
			t.Error("st at", at, "continues at", c.Pc)
		}
	}
}

func TestStOverItsOwnBytesInTheFlash(t *testing.T) {
	for state := range flashStates {
		if state == impl.StAuto {
			continue
		}
		for _, at := range []int{512, 513, 514} {
			for _, protected := range []bool{false, true} {
				m := placedLines(t, memOf(erasedFlash(state)), 512, fmt.Sprint("st 1 ", at))
				m.Flash.Guard[0] = protected
				c, y := wantStep(t, "st in the flash", withReg(cpuAt(512), 1, 48), m)
				want := afterCycle(m.Flash, at-512, 48)
				wantMem(t, fmt.Sprint("st at ", at, " in state ", state), y, withMemFlash(m, want), impl.OK)
				if c.Pc != 515 {
					t.Error("st at", at, "in state", state, "continues at", c.Pc)
				}
			}
		}
	}
	m := placedLines(t, memOf(erasedFlash(impl.StProgram)), 512, "st 1 512")
	_, y := wantStep(t, "st that programs itself", withReg(cpuAt(512), 1, 8), m)
	if y.Flash.Cells[0] != 57&8 || y.Flash.State != impl.StRead {
		t.Error("the byte of the instruction is", y.Flash.Cells[0])
	}
	if c, _ := wantStep(t, "once more", cpuAt(512), y); !c.Halt {
		t.Error("the new instruction is not executed:", c)
	}
}
