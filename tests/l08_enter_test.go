package tests

import (
	"fmt"
	"testing"

	"loop.example/g00563/impl"
)

func TestEnterIrqByHand(t *testing.T) {
	vectors := []int{704, 708, 712, 716, 720, 724, 728, 732}
	c := impl.Cpu{Pc: 1234, Sp: 180, Bank: 3, Level: 2, Zero: true, On: true, Regs: patternCpu().Regs}
	m := patternMem(patternFlash(impl.StRead, 4))
	for line, vector := range vectors {
		for level := 1; level <= 7; level++ {
			x, y, code := impl.EnterIrq(c, m, line, level)
			want := cpuWith(c, func(c *impl.Cpu) { c.Pc, c.Sp, c.Level = vector, 177, level })
			wantCpu(t, fmt.Sprint("line ", line, " level ", level), x, want, code)
			wantMem(t, fmt.Sprint("line ", line, " level ", level), y, placed(m, 178, 2+24+32+128, 210, 4), code)
		}
	}
}

func TestEnterIrqOfEveryState(t *testing.T) {
	m := patternMem(patternFlash(impl.StRead, 4))
	for line := range irqLines {
		for level := 1; level < irqLevels; level++ {
			for before := range irqLevels {
				for _, c := range everyMarks(withBank(patternCpu(), (line+before)%cpuBanks)) {
					c.Level = before
					what := fmt.Sprint("line ", line, " level ", level, " over ", before)
					wantEntered(t, what, c, m, line, level)
					wantEntered(t, what+", halted", withHalt(c, true), m, line, level)
				}
			}
		}
	}
}

func TestEnterIrqPushesTheFlagsBefore(t *testing.T) {
	m := patternMem(patternFlash(impl.StRead))
	for flags := range 256 {
		for _, halt := range []bool{false, true} {
			c := withHalt(withFlags(patternCpu(), flags), halt)
			for _, level := range []int{1, 7, 1 + flags%7} {
				x, y := wantEntered(t, fmt.Sprint("the flags ", flags), c, m, 3, level)
				want := cpuWith(c, func(c *impl.Cpu) { c.Pc, c.Sp, c.Level, c.Halt = 716, 177, level, false })
				wantCpu(t, fmt.Sprint("the flags ", flags), x, want, impl.OK)
				wantMem(t, fmt.Sprint("the flags ", flags), y, placed(m, 178, flags, 88, 2), impl.OK)
			}
		}
	}
}

func TestEnterIrqAtEveryStack(t *testing.T) {
	m := patternMem(patternFlash(impl.StRead))
	for sp, want := range map[int]int{0: 253, 1: 254, 2: 255, 3: 0, 254: 251, 255: 252} {
		for _, pc := range []int{0, 255, 256, 600, 4095} {
			x, _ := wantEntered(t, fmt.Sprint("Sp ", sp), withSp(cpuAt(pc), sp), m, 1, 4)
			if x.Sp != want {
				t.Error("Sp", sp, "becomes", x.Sp)
			}
		}
	}
	_, y := wantEntered(t, "Sp 1", withSp(cpuAt(1000), 1), m, 1, 4)
	wantMem(t, "Sp 1", y, withRam(withRam(withRam(m, 1, 3), 0, 232), 255, flagsOf(patternCpu())), impl.OK)
	for sp := range 256 {
		wantEntered(t, fmt.Sprint("Sp ", sp), withSp(patternCpu(), sp), m, sp%8, 1+sp%7)
	}
}

// On is neither asked for nor changed, and a lower level is entered too: that choice is not the processor's.
func TestEnterIrqDoesNotChoose(t *testing.T) {
	for _, on := range []bool{false, true} {
		for before := range irqLevels {
			for level := 1; level < irqLevels; level++ {
				c := withMarks(patternCpu(), false, false, on)
				c.Level = before
				x, _ := wantEntered(t, "any level", c, patternMem(patternFlash(0)), 0, level)
				if x.On != on || x.Level != level {
					t.Error("On", on, "and level", before, "become", x.On, x.Level)
				}
			}
		}
	}
}

func TestEnterIrqOfValidArguments(t *testing.T) {
	for _, x := range validCpus() {
		for _, y := range validMems() {
			wantEntered(t, x.name+" and "+y.name, x.cpu, y.mem, 7, 7)
		}
	}
}

func TestEnterIrqCodes(t *testing.T) {
	c, m := patternCpu(), patternMem(patternFlash(0))
	for _, line := range wrongLines() {
		for _, level := range append(wrongLevels(), 0, 1, 7) {
			wantNotEntered(t, "a valid processor", c, m, line, level, impl.ErrRange)
		}
	}
	for line := range irqLines {
		for _, level := range append(wrongLevels(), 0) {
			wantNotEntered(t, "a valid processor", c, m, line, level, impl.ErrLevel)
			wantNotEntered(t, "a halted processor", withHalt(c, true), m, line, level, impl.ErrLevel)
		}
	}
}

func TestEnterIrqOfInvalidArguments(t *testing.T) {
	c, m := patternCpu(), patternMem(patternFlash(0))
	for _, line := range []int{0, 7, -1, 8} {
		for _, level := range []int{1, 7, 0, -1, 8} {
			for _, x := range invalidCpus() {
				wantNotEntered(t, x.name, x.cpu, m, line, level, impl.ErrBad)
			}
			for _, y := range invalidMems() {
				wantNotEntered(t, y.name, c, y.mem, line, level, impl.ErrBad)
			}
			wantNotEntered(t, "both", impl.Cpu{}, impl.Mem{}, line, level, impl.ErrBad)
		}
	}
}
