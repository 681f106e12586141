package tests

import (
	"fmt"
	"slices"
	"testing"

	"loop.example/g00563/impl"
)

// trapped is the step at bytes that are not an instruction, written without the model.
func trapped(c impl.Cpu, m impl.Mem, behind int) stepResult {
	m = withRam(m, c.Sp, behind/256)
	m = withRam(m, (c.Sp+255)%256, behind%256)
	c = cpuWith(c, func(c *impl.Cpu) { c.Pc, c.Sp = 752, (c.Sp+254)%256 })
	return stepResult{c, m, 12, -1}
}

func TestTrapOfEveryFirstByte(t *testing.T) {
	for a := range 256 {
		for _, b := range []int{0, 3, 4, 255} {
			for _, high := range []int{0, 15, 16, 255} {
				c, m := cpuAt(600), placed(patternMem(patternFlash(impl.StRead)), 600, a, b, high)
				wantStep(t, fmt.Sprint("the bytes ", a, b, high), c, m)
				if decoded(a, b, high).Op == trapOp {
					wantStepped(t, fmt.Sprint("the trap ", a, b, high), c, m, trapped(c, m, 601))
				}
			}
		}
	}
}

// The bytes of OpTrap, operations that do not exist, registers that do not, and numbers that are too large.
func TestTrapsByHand(t *testing.T) {
	for _, bytes := range [][]int{
		{176, 0, 0}, {177, 0, 0}, {178, 1, 1}, {179, 0, 0}, {180, 9, 9}, {181, 0, 0}, {182, 0, 0}, {183, 255, 255}, {184, 0, 0}, {200, 0, 0}, {255, 255, 255},
		{1, 0, 0}, {7, 0, 0}, {9, 0, 0}, {17, 0, 0}, {44, 0, 0}, {47, 1, 1}, {121, 0, 0}, {153, 0, 0}, {161, 9, 0}, {169, 1, 0},
		{168, 4, 0}, {168, 255, 0}, {48, 0, 16}, {59, 1, 255}, {120, 0, 16}, {128, 255, 16}, {136, 0, 32}, {144, 0, 128},
	} {
		for _, at := range []int{40, 512, 600} {
			for _, c := range everyMarks(cpuAt(at)) {
				m := placed(patternMem(patternFlash(impl.StRead, 3)), at, bytes...)
				wantStepped(t, fmt.Sprint("the bytes ", bytes, " at ", at), c, m, trapped(c, m, at+1))
			}
		}
	}
}

func TestTrapAtOpenAddresses(t *testing.T) {
	m := patternMem(patternFlash(impl.StRead))
	for _, at := range openAddresses() {
		wantStepped(t, fmt.Sprint("at ", at), cpuAt(at), m, trapped(cpuAt(at), m, (at+1)%4096))
	}
}

// The last addresses are open; what is behind them is the work memory from 0 on.
func TestFetchAtTheLastAddresses(t *testing.T) {
	for at, behind := range map[int][2]int{4093: {15, 254}, 4094: {15, 255}, 4095: {0, 0}} {
		for _, bytes := range [][]int{{0, 0, 0}, {8, 8, 8}, {42, 200, 0}, {57, 85, 2}, {255, 255, 255}} {
			m := placed(memOf(erasedFlash(0)), 0, bytes...)
			x, y := wantStep(t, fmt.Sprint("at ", at), cpuAt(at), m)
			wantCpu(t, fmt.Sprint("at ", at), x, cpuWith(cpuAt(at), func(c *impl.Cpu) { c.Pc, c.Sp = 752, 178 }), impl.OK)
			wantMem(t, fmt.Sprint("at ", at), y, placed(m, 179, behind[1], behind[0]), impl.OK)
		}
	}
}

func TestFetchFromTheFirstAddresses(t *testing.T) {
	for _, line := range []string{"nop", "ldi 2 200", "ld 0 16", "jp 4095", "call 4095", "st 1 0"} {
		for at := range 4 {
			wantStep(t, fmt.Sprint(line, " at ", at), cpuAt(at), placedLines(t, patternMem(patternFlash(0)), at, line))
		}
	}
}

// boundaries are the addresses around the ends of all regions.
func boundaries() []int {
	return slices.Concat(countFrom(0, 3), countFrom(253, 6), countFrom(284, 7), countFrom(509, 6), countFrom(764, 7), countFrom(4093, 3))
}

func TestFetchAcrossRegions(t *testing.T) {
	for _, x := range edgeInstrs() {
		for _, at := range boundaries() {
			m := placed(patternMem(patternFlash(impl.StRead, 15)), at, codeOf(x)...)
			wantStep(t, fmt.Sprint(lineOf(x), " at ", at), cpuAt(at), m)
		}
	}
}

func TestFetchAcrossRegionsByHand(t *testing.T) {
	for _, x := range []struct {
		line string
		at   int
		want func(c *impl.Cpu)
	}{
		{"jp 700", 253, func(c *impl.Cpu) { c.Pc = 700 }},
		{"jp 700", 254, func(c *impl.Cpu) { c.Pc = 700 }},
		{"jp 700", 255, func(c *impl.Cpu) { c.Pc = 700 }},
		{"ldi 1 9", 255, func(c *impl.Cpu) { c.Pc, c.Regs[9] = 257, 9 }},
		{"jp 700", 285, func(c *impl.Cpu) { c.Pc = 700 }},
		{"ldi 1 9", 286, func(c *impl.Cpu) { c.Pc, c.Regs[9] = 288, 9 }},
		{"ldi 1 9", 287, func(c *impl.Cpu) { c.Pc, c.Regs[9] = 289, 255 }},
		{"halt", 287, func(c *impl.Cpu) { c.Pc, c.Halt = 288, true }},
		{"jp 700", 765, func(c *impl.Cpu) { c.Pc = 700 }},
		{"ldi 1 9", 767, func(c *impl.Cpu) { c.Pc, c.Regs[9] = 769, 255 }},
		{"halt", 767, func(c *impl.Cpu) { c.Pc, c.Halt = 768, true }},
	} {
		m := placedLines(t, memOf(erasedFlash(0)), x.at, x.line)
		c, y := wantStep(t, fmt.Sprint(x.line, " at ", x.at), cpuAt(x.at), m)
		wantCpu(t, fmt.Sprint(x.line, " at ", x.at), c, cpuWith(cpuAt(x.at), x.want), impl.OK)
		wantMem(t, fmt.Sprint(x.line, " at ", x.at), y, m, impl.OK)
	}
}

// An address whose higher byte would be at an open address is too large, and so is a bank.
func TestFetchOfNumbersAtOpenAddresses(t *testing.T) {
	for line, places := range map[string][]int{"jp 700": {286, 287, 766, 767}, "ld 1 40": {286, 766}, "bank 1": {287, 767}, "nop": {288, 511, 768}} {
		for _, at := range places {
			m := placedLines(t, memOf(erasedFlash(0)), at, line)
			wantStepped(t, fmt.Sprint(line, " at ", at), cpuAt(at), m, trapped(cpuAt(at), m, at+1))
		}
	}
}

// In StAuto the bytes that are read identify the flash: 32 is `di`, 47 a trap, 0 a `nop` and 1 a trap.
func TestFetchFromAFlashThatIdentifiesItself(t *testing.T) {
	m := placedLines(t, patternMem(patternFlash(impl.StAuto, 4)), 512, "halt", "halt", "halt", "halt")
	for at := 512; at < 768; at += 4 {
		c := cpuAt(at)
		wantStepped(t, "32", c, m, stepResult{cpuWith(c, func(c *impl.Cpu) { c.Pc, c.On = at+1, false }), m, 2, -1})
		wantStepped(t, "47", cpuAt(at+1), m, trapped(cpuAt(at+1), m, at+2))
		wantStepped(t, "255", cpuAt(at+3), m, trapped(cpuAt(at+3), m, at+4))
		if c = cpuAt(at + 2); at >= 576 && at < 592 {
			wantStepped(t, "1", c, m, trapped(c, m, at+3))
		} else {
			wantStepped(t, "0", c, m, stepResult{cpuAt(at + 3), m, 2, -1})
		}
	}
}

func TestFetchInEveryStateOfTheFlash(t *testing.T) {
	for state := range flashStates {
		for _, x := range edgeInstrs() {
			m := placed(patternMem(patternFlash(state, 0)), 512, codeOf(x)...)
			wantStep(t, fmt.Sprint(lineOf(x), " in state ", state), cpuAt(512), m)
		}
	}
}
