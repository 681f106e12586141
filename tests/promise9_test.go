package tests

import (
	"fmt"
	"slices"
	"testing"

	"loop.example/g00563/impl"
)

// mustStep does not compare with the model: what promise 9 says is checked by itself.
func mustStep(t *testing.T, c impl.Cpu, m impl.Mem) (impl.Cpu, impl.Mem) {
	t.Helper()
	x, y, _, _, code := impl.StepCpu(c, m)
	if code != impl.OK || !impl.CpuOK(x) || !impl.MemOK(y) {
		t.Fatalf("StepCpu of %+v: code %d, %+v", c, code, x)
	}
	return x, y
}

func mustSteps(t *testing.T, c impl.Cpu, m impl.Mem, n int) (impl.Cpu, impl.Mem) {
	t.Helper()
	for range n {
		c, m = mustStep(t, c, m)
	}
	return c, m
}

func mustEnter(t *testing.T, c impl.Cpu, m impl.Mem, line, level int) (impl.Cpu, impl.Mem) {
	t.Helper()
	x, y, code := impl.EnterIrq(c, m, line, level)
	if code != impl.OK || !impl.CpuOK(x) || !impl.MemOK(y) || x.Pc != 704+4*line || x.Level != level || x.Halt {
		t.Fatalf("EnterIrq of line %d, level %d, of %+v: code %d, %+v", line, level, c, code, x)
	}
	return x, y
}

// wantKept compares all of the memory but n bytes that were pushed at sp.
func wantKept(t *testing.T, what string, before, after impl.Mem, sp, n int) {
	t.Helper()
	want := copyMem(before)
	for i := range n {
		at := (sp + 256 - i) % 256
		want.Ram[at] = after.Ram[at]
	}
	wantMem(t, what, after, want, impl.OK)
}

// returning has a `reti` at each vector, and a flash that can be read.
func returning(m impl.Mem) impl.Mem {
	for line := range irqLines {
		m = placed(m, 704+4*line, 16)
	}
	if m.Flash.State == impl.StAuto {
		m.Flash.State = impl.StRead
	}
	return m
}

func checkInterrupt(t *testing.T, what string, c impl.Cpu, m impl.Mem, line, level int) {
	t.Helper()
	x, y := mustEnter(t, c, m, line, level)
	x, y = mustStep(t, x, y)
	wantCpu(t, what, x, withHalt(c, false), impl.OK)
	wantKept(t, what, m, y, c.Sp, 3)
}

func TestPromise9InterruptOfAnyProcessor(t *testing.T) {
	for _, x := range validCpus() {
		for _, y := range validMems() {
			for line := range irqLines {
				checkInterrupt(t, x.name+" and "+y.name, x.cpu, returning(y.mem), line, 1+line%7)
			}
		}
	}
}

func TestPromise9InterruptWithAnyFlags(t *testing.T) {
	m := returning(patternMem(patternFlash(impl.StRead)))
	for flags := range 256 {
		c := withFlags(patternCpu(), flags)
		for level := 1; level < irqLevels; level++ {
			checkInterrupt(t, fmt.Sprint("the flags ", flags), c, m, flags%8, level)
		}
	}
}

func TestPromise9InterruptAnywhere(t *testing.T) {
	m := returning(patternMem(patternFlash(impl.StRead)))
	for pc := range addressEnd {
		checkInterrupt(t, fmt.Sprint("at ", pc), withSp(cpuAt(pc), (pc*7)%256), m, pc%8, 1+pc%7)
	}
	for sp := range 256 {
		checkInterrupt(t, fmt.Sprint("with Sp ", sp), withSp(patternCpu(), sp), m, sp%8, 1+sp%7)
	}
}

// Only the halt is lost: it is how a program waits for an interrupt.
func TestPromise9InterruptOfAHaltedProcessor(t *testing.T) {
	m := returning(patternMem(patternFlash(impl.StRead)))
	for _, c := range everyMarks(withHalt(patternCpu(), true)) {
		checkInterrupt(t, "halted", c, m, 4, 2)
	}
}

// handled has a program in the flash, and behind each vector a handler that changes all flags and works in bank 3.
func handled(t *testing.T, lines ...string) (impl.Cpu, impl.Mem) {
	t.Helper()
	c, m := loaded(t, lines...)
	for line := range irqLines {
		m = placedLines(t, m, 704+4*line, "jp 736")
	}
	return c, placedLines(t, m, 736, "bank 3", "ldi 0 200", "ldi 1 100", "add 1", "sub 0", "di", "st 1 33", "reti")
}

const handlerSteps = 9

func withoutBank3(c impl.Cpu) impl.Cpu {
	return cpuWith(c, func(c *impl.Cpu) { copy(c.Regs[12:], []int{0, 0, 0, 0}) })
}

// A program that is interrupted after any of its steps goes on as it would have done.
func TestPromise9InterruptOfAProgramAtEveryStep(t *testing.T) {
	c, m := handled(t, "ei", "ldi 0 3", "st 0 40", "call 540", "ld 0 40", "dec 0", "jnz 515", "bank 2", "ldi 3 77", "inc 3", "xor 3", "st 3 41", "halt")
	m = placedLines(t, m, 540, "ldi 1 250", "add 1", "st 0 42", "ret")
	const steps = 2 + 3*9 + 6
	endC, endM := mustSteps(t, c, m, steps)
	if !endC.Halt || endM.Ram[41] != 78 {
		t.Fatal("the program ends with", endC, endM.Ram[40:43])
	}
	for after := range steps {
		for line := range irqLines {
			x, y := mustSteps(t, c, m, after)
			sp := x.Sp
			x, y = mustEnter(t, x, y, line, 7-line%7)
			x, y = mustSteps(t, x, y, handlerSteps)
			if x.Sp != sp || y.Ram[33] != 100 {
				t.Fatal("the handler ends with", x, y.Ram[33])
			}
			x, y = mustSteps(t, x, y, steps-after)
			what := fmt.Sprint("interrupted after ", after, " steps")
			wantCpu(t, what, withoutBank3(x), endC, impl.OK)
			if !slices.Equal(y.Ram[40:200], endM.Ram[40:200]) || !equalFlashes(y.Flash, endM.Flash) || !slices.Equal(y.Io, endM.Io) {
				t.Error(what, "the memory is", y.Ram[40:43])
			}
		}
	}
}

// An interrupt within an interrupt returns to it, and that one to the program.
func TestPromise9NestedInterrupts(t *testing.T) {
	c, m := handled(t, "ei", "nop")
	c = withMarks(withReg(c, 2, 9), true, true, true)
	for inner := range handlerSteps {
		x, y := mustEnter(t, c, m, 1, 2)
		x, y = mustSteps(t, x, y, inner)
		before := x
		x, y = mustEnter(t, x, y, 6, 5)
		x, y = mustSteps(t, x, y, handlerSteps)
		if x.Pc != before.Pc || x.Sp != before.Sp || x.Bank != before.Bank || x.Level != 2 || flagsOf(x) != flagsOf(before) {
			t.Error("the inner interrupt leaves", x, "and before it was", before)
		}
		x, y = mustSteps(t, x, y, handlerSteps-inner)
		wantCpu(t, fmt.Sprint("nested after ", inner, " steps"), withoutBank3(x), c, impl.OK)
		wantKept(t, "nested", withRam(m, 33, 100), y, 255, 6)
	}
}

// checkCall expects a call at Pc and a `ret` at its target.
func checkCall(t *testing.T, what string, c impl.Cpu, m impl.Mem, behind int) {
	t.Helper()
	x, y := mustSteps(t, c, m, 2)
	wantCpu(t, what, x, cpuWith(c, func(c *impl.Cpu) { c.Pc = behind }), impl.OK)
	wantKept(t, what, m, y, c.Sp, 2)
}

func TestPromise9CallAndReturn(t *testing.T) {
	for _, at := range []int{0, 30, 70, 253, 254, 255, 256, 280, 285, 512, 600, 765} {
		for _, to := range []int{20, 90, 250, 262, 276, 520, 700, 740} {
			m := placed(patternMem(patternFlash(impl.StRead)), at, 144, to%256, to/256)
			m = placed(m, to, 152)
			for _, c := range everyMarks(withSp(cpuAt(at), 140)) {
				checkCall(t, fmt.Sprint("call at ", at, " of ", to), c, m, at+3)
			}
		}
	}
}

func TestPromise9CallAndReturnAtEveryPlace(t *testing.T) {
	for offset := range flashBytes - 2 {
		m := placed(patternMem(patternFlash(impl.StRead)), 512+offset, 144, 100, 0)
		checkCall(t, fmt.Sprint("call at ", 512+offset), withSp(cpuAt(512+offset), 90-offset%80), placed(m, 100, 152), 515+offset)
	}
	m := placed(placed(patternMem(patternFlash(impl.StRead)), 600, 144, 188, 2), 700, 152)
	for sp := range 256 {
		checkCall(t, fmt.Sprint("call with Sp ", sp), withSp(cpuAt(600), sp), m, 603)
	}
}

// The subroutine calls itself until register 0 is 0, and counts in register 1 how often it returns.
func TestPromise9CallsWithinCalls(t *testing.T) {
	for depth := 1; depth <= 126; depth++ {
		c, m := loaded(t, fmt.Sprint("ldi 0 ", depth), "call 520", "halt")
		m = placedLines(t, m, 520, "dec 0", "jz 527", "call 520", "inc 1", "ret")
		m = placedLines(t, m, 527, "inc 1", "ret")
		c, _ = mustSteps(t, c, m, 5*depth+2)
		want := startCpu()
		want.Pc, want.Halt, want.Regs[1] = 518, true, depth
		wantCpu(t, fmt.Sprint(depth, " calls"), c, want, impl.OK)
	}
}

// A `ret` at the trap address continues behind the one byte.
func TestPromise9BytesThatAreNoInstructionCallTheTrapAddress(t *testing.T) {
	fronts := map[int]bool{}
	for _, x := range everyInstr() {
		fronts[codeOf(x)[0]] = true
	}
	for v := range 256 {
		if fronts[v] {
			continue
		}
		for _, at := range []int{40, 255, 257, 287, 512, 700} {
			c, m := cpuAt(at), placed(patternMem(patternFlash(impl.StRead)), 752, 152)
			m = placed(m, at, v)
			x, y := mustStep(t, c, m)
			wantCpu(t, fmt.Sprint("byte ", v), x, cpuWith(c, func(c *impl.Cpu) { c.Pc, c.Sp = 752, 178 }), impl.OK)
			wantKept(t, fmt.Sprint("byte ", v), m, y, c.Sp, 2)
			checkCall(t, fmt.Sprint("byte ", v), c, m, at+1)
		}
	}
}

func TestPromise9NumbersThatAreNoneCallTheTrapAddress(t *testing.T) {
	m := placed(patternMem(patternFlash(impl.StRead)), 752, 152)
	for v := range 256 {
		if v > 3 {
			checkCall(t, fmt.Sprint("bank ", v), cpuAt(600), placed(m, 600, 168, v), 601)
		}
		for _, op := range []int{6, 7, 15, 16, 17, 18} {
			if v > 15 {
				checkCall(t, fmt.Sprint("operation ", op, " with ", v), cpuAt(600), placed(m, 600, 8*op, 0, v), 601)
			}
		}
	}
}

func (n *noise) cpu() impl.Cpu {
	c := impl.Cpu{Pc: n.below(addressEnd), Sp: n.below(256), Regs: make([]int, cpuRegisters)}
	if n.below(4) > 0 {
		c.Pc = 512 + n.below(flashBytes)
	}
	for place := range c.Regs {
		c.Regs[place] = n.below(256)
	}
	return withFlags(c, n.below(256))
}

// memory is full of instructions, among them write cycles of the flash.
func (n *noise) memory() impl.Mem {
	m := patternMem(n.flash())
	for _, at := range []int{0, 512} {
		for end := at + 256 - 3; at < end; {
			x := n.instr()
			if x.Arg > 255 && n.below(2) == 0 {
				x.Arg = []int{597, 554, n.below(288), 512 + n.below(256)}[n.below(4)]
			}
			code := codeOf(x)
			m, at = placed(m, at, code...), at+len(code)
		}
	}
	return m
}

func TestPromise9WholeHistories(t *testing.T) {
	n := &noise{state: 19}
	for history := range 300 {
		c, m := n.cpu(), n.memory()
		for step := range 60 {
			what := fmt.Sprint("history ", history, ", step ", step)
			checkInterrupt(t, what, c, returning(m), n.below(irqLines), 1+n.below(7))
			if n.below(8) == 0 {
				c, m = wantEntered(t, what, c, m, n.below(irqLines), 1+n.below(7))
			}
			c, m = wantStep(t, what, c, m)
			if c.Halt {
				c, m = wantEntered(t, what, c, m, n.below(irqLines), 1+n.below(7))
			}
		}
	}
}
