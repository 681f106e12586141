package tests

import (
	"fmt"
	"testing"

	"loop.example/g00563/impl"
)

func TestCpuConstants(t *testing.T) {
	if impl.Start != 512 || impl.TrapAt != 752 || impl.Vectors != 704 {
		t.Error("Start, TrapAt and Vectors are", impl.Start, impl.TrapAt, impl.Vectors)
	}
}

func TestCpuExampleOfAddAndSub(t *testing.T) {
	c, m := loaded(t, "ldi 0 250", "ldi 1 10", "add 1", "sub 1", "halt")
	c, m = wantSteps(t, "ldi and add", c, m, 3)
	if c.Regs[0] != 4 || !c.Carry || c.Zero {
		t.Error("after add:", c)
	}
	c, m = wantStep(t, "sub", c, m)
	if c.Regs[0] != 250 || !c.Carry || c.Zero {
		t.Error("after sub:", c)
	}
	c, m = wantStep(t, "halt", c, m)
	if !c.Halt || c.Pc != 519 {
		t.Error("after halt:", c)
	}
	x, y, cycles, swi, code := impl.StepCpu(c, m)
	if !equalCpus(x, c) || !equalMems(y, m) || cycles != 4 || swi != -1 || code != impl.OK {
		t.Error("halted:", x, cycles, swi, code)
	}
}

func TestCpuExampleOfATrap(t *testing.T) {
	c, m := loaded(t)
	c.Pc = 1000
	x, y, cycles, swi, code := impl.StepCpu(c, m)
	if x.Pc != 752 || x.Sp != 253 || cycles != 12 || swi != -1 || code != impl.OK {
		t.Error("the trap at 1000:", x, cycles, swi, code)
	}
	wantMem(t, "the trap at 1000", y, withRam(withRam(m, 255, 3), 254, 233), code)
}

func TestCpuExampleOfAnInterrupt(t *testing.T) {
	c, m := loaded(t, "bank 1", "ei", "halt")
	c, m = wantSteps(t, "bank, ei and halt", c, m, 3)
	c.Zero = true
	if c.Bank != 1 || !c.On || !c.Halt || c.Pc != 516 {
		t.Error("before the interrupt:", c)
	}
	x, y, code := impl.EnterIrq(c, m, 2, 5)
	if code != impl.OK || x.Pc != 712 || x.Sp != 252 || x.Level != 5 || x.Halt {
		t.Error("EnterIrq:", x, code)
	}
	wantMem(t, "EnterIrq", y, placed(m, 253, 168, 4, 2), code)
	y = placedLines(t, y, 712, "reti")
	z, _, cycles, swi, code := impl.StepCpu(x, y)
	wantCpu(t, "reti", z, withHalt(c, false), code)
	if cycles != 8 || swi != -1 {
		t.Error("reti takes", cycles, "cycles; swi", swi)
	}
	wantNotEntered(t, "the processor", c, m, 2, 0, impl.ErrLevel)
}

func TestCpuExampleOfASwi(t *testing.T) {
	c, m := loaded(t, "swi 9")
	x, y, cycles, swi, code := impl.StepCpu(c, m)
	wantCpu(t, "swi 9", x, cpuWith(c, func(c *impl.Cpu) { c.Pc = 514 }), code)
	wantMem(t, "swi 9", y, m, code)
	if cycles != 12 || swi != 9 {
		t.Error("swi 9 takes", cycles, "cycles and returns", swi)
	}
}

func TestNewCpu(t *testing.T) {
	c := impl.NewCpu()
	wantCpu(t, "NewCpu", c, startCpu(), impl.OK)
	if !impl.CpuOK(c) {
		t.Error("NewCpu is not valid")
	}
}

func TestCpuOK(t *testing.T) {
	for _, x := range validCpus() {
		if !impl.CpuOK(x.cpu) {
			t.Error("not valid:", x.name)
		}
	}
	for _, x := range invalidCpus() {
		if impl.CpuOK(x.cpu) {
			t.Error("valid:", x.name)
		}
	}
}

func TestCpuOKOfEveryField(t *testing.T) {
	for _, f := range intFields() {
		for v := -2; v <= f.most+2; v++ {
			if impl.CpuOK(f.of(patternCpu(), v)) != (v >= 0 && v <= f.most) {
				t.Error("CpuOK with", f.name, v)
			}
		}
	}
	for place := range cpuRegisters {
		for v := -2; v <= 257; v++ {
			if impl.CpuOK(withPlace(patternCpu(), place, v)) != (v >= 0 && v <= 255) {
				t.Error("CpuOK with", v, "in register", place)
			}
		}
	}
	for n := range 40 {
		if impl.CpuOK(withRegisterCount(n)) != (n == 16) {
			t.Error("CpuOK with", n, "registers")
		}
	}
}

func TestSameCpuAnyTwo(t *testing.T) {
	all := allCpus()
	for _, x := range all {
		if !impl.SameCpu(x.cpu, copyCpu(x.cpu)) {
			t.Error("not the same as itself:", x.name)
		}
		for _, y := range all {
			if impl.SameCpu(x.cpu, y.cpu) != equalCpus(x.cpu, y.cpu) {
				t.Error("SameCpu of", x.name, "and", y.name)
			}
		}
	}
}

// oneDifference are processors that differ from c in one field each, where c may be invalid.
func oneDifference(c impl.Cpu) []namedCpu {
	list := []namedCpu{
		{"Pc", cpuWith(c, func(c *impl.Cpu) { c.Pc ^= 1 })},
		{"Pc out of range", cpuWith(c, func(c *impl.Cpu) { c.Pc += 4096 })},
		{"Sp", cpuWith(c, func(c *impl.Cpu) { c.Sp ^= 1 })},
		{"Sp out of range", cpuWith(c, func(c *impl.Cpu) { c.Sp += 256 })},
		{"Bank", cpuWith(c, func(c *impl.Cpu) { c.Bank ^= 1 })},
		{"Bank out of range", cpuWith(c, func(c *impl.Cpu) { c.Bank += 4 })},
		{"Level", cpuWith(c, func(c *impl.Cpu) { c.Level ^= 1 })},
		{"Level out of range", cpuWith(c, func(c *impl.Cpu) { c.Level += 8 })},
		{"Zero", cpuWith(c, func(c *impl.Cpu) { c.Zero = !c.Zero })},
		{"Carry", cpuWith(c, func(c *impl.Cpu) { c.Carry = !c.Carry })},
		{"On", cpuWith(c, func(c *impl.Cpu) { c.On = !c.On })},
		{"Halt", cpuWith(c, func(c *impl.Cpu) { c.Halt = !c.Halt })},
		{"a further register", cpuWith(c, func(c *impl.Cpu) { c.Regs = append(c.Regs, 0) })},
	}
	for place := range c.Regs {
		list = append(list,
			namedCpu{fmt.Sprint("register ", place), withPlace(c, place, c.Regs[place]^1)},
			namedCpu{fmt.Sprint("register ", place, " out of range"), withPlace(c, place, c.Regs[place]+256)},
			namedCpu{fmt.Sprint("registers from ", place, " on"), cpuWith(c, func(c *impl.Cpu) { c.Regs = c.Regs[:place] })})
	}
	return list
}

func TestSameCpuOneDifference(t *testing.T) {
	for _, c := range []impl.Cpu{startCpu(), patternCpu(), withHalt(patternCpu(), true), {}, {Pc: -1, Level: 9}, withRegisterCount(17), withPlace(patternCpu(), 3, -1)} {
		for _, x := range oneDifference(c) {
			if impl.SameCpu(c, x.cpu) || impl.SameCpu(x.cpu, c) {
				t.Errorf("SameCpu in spite of %s of %+v", x.name, c)
			}
		}
	}
}

func TestRegAtOfEveryBank(t *testing.T) {
	for _, x := range validCpus() {
		for bank := range cpuBanks {
			c := withBank(x.cpu, bank)
			for reg := range 4 {
				if v, code := impl.RegAt(c, reg); v != c.Regs[4*bank+reg] || code != impl.OK {
					t.Error("RegAt", reg, "of bank", bank, "is", v, "code", code, x.name)
				}
			}
		}
	}
}

func TestRegAtOfEveryByte(t *testing.T) {
	for place := range cpuRegisters {
		for v := range 256 {
			c := withPlace(withBank(patternCpu(), place/4), place, v)
			if got, code := impl.RegAt(c, place%4); got != v || code != impl.OK {
				t.Error("RegAt of place", place, "is", got, "code", code, "and not", v)
			}
		}
	}
}

func TestRegAtCodes(t *testing.T) {
	for _, x := range validCpus() {
		for _, reg := range wrongRegs() {
			if v, code := impl.RegAt(x.cpu, reg); v != 0 || code != impl.ErrRange {
				t.Error("RegAt", reg, "of", x.name, "is", v, "code", code)
			}
		}
	}
	for _, x := range invalidCpus() {
		for _, reg := range append(wrongRegs(), 0, 1, 2, 3) {
			if v, code := impl.RegAt(x.cpu, reg); v != 0 || code != impl.ErrBad {
				t.Error("RegAt", reg, "of", x.name, "is", v, "code", code)
			}
		}
	}
}
