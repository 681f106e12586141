package tests

import (
	"fmt"
	"math"
	"slices"
	"testing"

	"loop.example/g00563/impl"
)

const (
	cpuBanks     = 4
	cpuRegisters = 16
	trapAddress  = 752
)

// equalCpus does not use SameCpu, so that a wrong SameCpu cannot hide another mistake.
func equalCpus(a, b impl.Cpu) bool {
	return a.Pc == b.Pc && a.Sp == b.Sp && a.Bank == b.Bank && a.Level == b.Level &&
		a.Zero == b.Zero && a.Carry == b.Carry && a.On == b.On && a.Halt == b.Halt && slices.Equal(a.Regs, b.Regs)
}

func isZeroCpu(c impl.Cpu) bool {
	return equalCpus(c, impl.Cpu{})
}

func copyCpu(c impl.Cpu) impl.Cpu {
	c.Regs = slices.Clone(c.Regs)
	return c
}

func cpuWith(c impl.Cpu, change func(c *impl.Cpu)) impl.Cpu {
	c = copyCpu(c)
	change(&c)
	return c
}

// startCpu does not use NewCpu.
func startCpu() impl.Cpu {
	return impl.Cpu{Pc: 512, Sp: 255, Regs: make([]int, cpuRegisters)}
}

// patternCpu has 16 different registers and no field that is 0 or at an end of its range.
func patternCpu() impl.Cpu {
	c := impl.Cpu{Pc: 600, Sp: 180, Bank: 2, Level: 3, Zero: true, Carry: true, On: true, Regs: make([]int, cpuRegisters)}
	for place := range c.Regs {
		c.Regs[place] = 3 + 13*place
	}
	return c
}

func cpuAt(pc int) impl.Cpu {
	return cpuWith(patternCpu(), func(c *impl.Cpu) { c.Pc = pc })
}

func withSp(c impl.Cpu, sp int) impl.Cpu {
	return cpuWith(c, func(c *impl.Cpu) { c.Sp = sp })
}

func withBank(c impl.Cpu, bank int) impl.Cpu {
	return cpuWith(c, func(c *impl.Cpu) { c.Bank = bank })
}

func withHalt(c impl.Cpu, halt bool) impl.Cpu {
	return cpuWith(c, func(c *impl.Cpu) { c.Halt = halt })
}

func withMarks(c impl.Cpu, zero, carry, on bool) impl.Cpu {
	return cpuWith(c, func(c *impl.Cpu) { c.Zero, c.Carry, c.On = zero, carry, on })
}

// withReg sets a register of the current bank.
func withReg(c impl.Cpu, reg, v int) impl.Cpu {
	return withPlace(c, 4*c.Bank+reg, v)
}

func withPlace(c impl.Cpu, place, v int) impl.Cpu {
	return cpuWith(c, func(c *impl.Cpu) { c.Regs[place] = v })
}

// everyMarks are all Zero, Carry and On.
func everyMarks(c impl.Cpu) []impl.Cpu {
	var list []impl.Cpu
	for bits := range 8 {
		list = append(list, withMarks(c, bits&1 == 1, bits&2 == 2, bits&4 == 4))
	}
	return list
}

// placed puts bytes where the bus has them, the register of the pad too; those at open addresses are left out.
func placed(m impl.Mem, at int, bytes ...int) impl.Mem {
	m = copyMem(m)
	for i, v := range bytes {
		switch region, offset := placeOf((at + i) % addressEnd); region {
		case 1:
			m.Ram[offset] = v
		case 2:
			m.Io[offset] = v
		case 3:
			m.Flash.Cells[offset] = v
		}
	}
	return m
}

// placedInstr puts one instruction, which is encoded without the program.
func placedInstr(m impl.Mem, at int, op, reg, arg int) impl.Mem {
	return placed(m, at, codeOf(impl.Instr{Op: op, Reg: reg, Arg: arg})...)
}

func placedLines(t *testing.T, m impl.Mem, at int, lines ...string) impl.Mem {
	t.Helper()
	var program []int
	for _, line := range lines {
		x, ok := readLine(line)
		if !ok {
			t.Fatal("not an instruction:", line)
		}
		program = append(program, codeOf(x)...)
	}
	return placed(m, at, program...)
}

// loaded is a new memory whose flash begins with a program, and a processor at its start.
func loaded(t *testing.T, lines ...string) (impl.Cpu, impl.Mem) {
	t.Helper()
	return startCpu(), placedLines(t, memOf(erasedFlash(0)), 512, lines...)
}

type namedCpu struct {
	name string
	cpu  impl.Cpu
}

type intField struct {
	name string
	most int
	set  func(c *impl.Cpu, v int)
}

func intFields() []intField {
	return []intField{
		{"Pc", 4095, func(c *impl.Cpu, v int) { c.Pc = v }},
		{"Sp", 255, func(c *impl.Cpu, v int) { c.Sp = v }},
		{"Bank", 3, func(c *impl.Cpu, v int) { c.Bank = v }},
		{"Level", 7, func(c *impl.Cpu, v int) { c.Level = v }},
	}
}

func (f intField) of(c impl.Cpu, v int) impl.Cpu {
	return cpuWith(c, func(c *impl.Cpu) { f.set(c, v) })
}

// beyond are no numbers from 0 to most; some would be one if only their last bits counted.
func beyond(most int) []int {
	return []int{-1, -2, -most, -most - 1, most + 1, most + 2, 2*most + 1, 2*most + 2, 4096, 1 << 16,
		1 << 32, 1<<32 + 1, -1 << 32, math.MinInt, math.MinInt + 1, math.MaxInt - 1, math.MaxInt}
}

func validCpus() []namedCpu {
	list := []namedCpu{
		{"start", startCpu()},
		{"pattern", patternCpu()},
		{"halted", withHalt(patternCpu(), true)},
		{"all registers 255", cpuWith(patternCpu(), func(c *impl.Cpu) { c.Regs = slices.Repeat([]int{255}, cpuRegisters) })},
		{"all fields 0", impl.Cpu{Regs: make([]int, cpuRegisters)}},
	}
	for _, f := range intFields() {
		for _, v := range []int{0, 1, f.most - 1, f.most} {
			list = append(list, namedCpu{fmt.Sprint(f.name, " ", v), f.of(patternCpu(), v)})
		}
	}
	for _, c := range everyMarks(patternCpu()) {
		list = append(list, namedCpu{fmt.Sprint("Zero, Carry and On ", c.Zero, c.Carry, c.On), c})
	}
	return list
}

func withRegisterCount(n int) impl.Cpu {
	return cpuWith(patternCpu(), func(c *impl.Cpu) { c.Regs = slices.Repeat([]int{7}, n) })
}

func invalidCpus() []namedCpu {
	list := []namedCpu{
		{"zero", impl.Cpu{}},
		{"nil registers", cpuWith(patternCpu(), func(c *impl.Cpu) { c.Regs = nil })},
		{"empty registers", cpuWith(patternCpu(), func(c *impl.Cpu) { c.Regs = []int{} })},
		{"halted without registers", impl.Cpu{Halt: true}},
		{"halted with another Sp", withSp(withHalt(patternCpu(), true), 256)},
	}
	for _, n := range []int{1, 4, 15, 17, 32, impl.MaxList, impl.MaxList + 1} {
		list = append(list, namedCpu{fmt.Sprint(n, " registers"), withRegisterCount(n)})
	}
	for _, f := range intFields() {
		for _, v := range beyond(f.most) {
			list = append(list, namedCpu{fmt.Sprint(f.name, " ", v), f.of(patternCpu(), v)})
		}
	}
	for _, place := range []int{0, 7, 11, 15} {
		for _, v := range farNumbers() {
			list = append(list, namedCpu{fmt.Sprint(v, " in register ", place), withPlace(patternCpu(), place, v)})
		}
	}
	return list
}

func allCpus() []namedCpu {
	return append(validCpus(), invalidCpus()...)
}

func wantCpu(t *testing.T, what string, got, want impl.Cpu, code int) {
	t.Helper()
	if code != impl.OK || !equalCpus(got, want) {
		t.Errorf("%s: code %d; %+v, not %+v", what, code, got, want)
	}
}

// wantStepped compares a step with what is expected of it, whatever says so.
func wantStepped(t *testing.T, what string, c impl.Cpu, m impl.Mem, want stepResult) (impl.Cpu, impl.Mem) {
	t.Helper()
	x, y, cycles, swi, code := impl.StepCpu(c, m)
	if code == impl.OK && equalCpus(x, want.cpu) && equalMems(y, want.mem) && cycles == want.cycles && swi == want.swi {
		return x, y
	}
	wantCpu(t, what, x, want.cpu, code)
	if !equalMems(y, want.mem) {
		wantMem(t, what, y, want.mem, code)
	}
	t.Fatalf("%s: StepCpu of %+v takes %d cycles, not %d, and the swi is %d, not %d", what, c, cycles, want.cycles, swi, want.swi)
	return x, y
}

// wantStep compares a step with the model.
func wantStep(t *testing.T, what string, c impl.Cpu, m impl.Mem) (impl.Cpu, impl.Mem) {
	t.Helper()
	return wantStepped(t, what, c, m, stepOf(c, m))
}

func wantSteps(t *testing.T, what string, c impl.Cpu, m impl.Mem, n int) (impl.Cpu, impl.Mem) {
	t.Helper()
	for i := range n {
		c, m = wantStep(t, fmt.Sprint(what, ", step ", i), c, m)
	}
	return c, m
}

func wantNoStep(t *testing.T, what string, c impl.Cpu, m impl.Mem) {
	t.Helper()
	x, y, cycles, swi, code := impl.StepCpu(c, m)
	if code != impl.ErrBad || !isZeroCpu(x) || !isZeroMem(y) || cycles != 0 || swi != 0 {
		t.Error("StepCpu of", what, "is", x, cycles, "cycles, the swi", swi, "code", code)
	}
}

func wantEntered(t *testing.T, what string, c impl.Cpu, m impl.Mem, line, level int) (impl.Cpu, impl.Mem) {
	t.Helper()
	x, y, code := impl.EnterIrq(c, m, line, level)
	wantC, wantM := entered(c, m, line, level)
	if code != impl.OK || !equalCpus(x, wantC) || !equalMems(y, wantM) {
		wantCpu(t, what, x, wantC, code)
		wantMem(t, what, y, wantM, code)
		t.Fatal("EnterIrq of line", line, "level", level)
	}
	return x, y
}

func wantNotEntered(t *testing.T, what string, c impl.Cpu, m impl.Mem, line, level, want int) {
	t.Helper()
	x, y, code := impl.EnterIrq(c, m, line, level)
	if code != want || !isZeroCpu(x) || !isZeroMem(y) {
		t.Error("EnterIrq of line", line, "level", level, "of", what, "is", x, "code", code, "and not code", want)
	}
}
