package tests

import (
	"fmt"
	"slices"
	"testing"

	"loop.example/g00563/impl"
)

// spareCpu puts marked elements behind the end of the registers, where a careless append would write.
func spareCpu(c impl.Cpu) impl.Cpu {
	c.Regs = spareNumbers(c.Regs)
	return c
}

func cpuStays(c, want impl.Cpu) bool {
	return equalCpus(c, want) && numbersStay(c.Regs, want.Regs)
}

type cpuCall struct {
	name string
	call func(c impl.Cpu, m impl.Mem) (impl.Cpu, impl.Mem, []int)
}

// cpuCalls return the numbers beside the processor and the memory as a list.
func cpuCalls() []cpuCall {
	list := []cpuCall{{"StepCpu", func(c impl.Cpu, m impl.Mem) (impl.Cpu, impl.Mem, []int) {
		x, y, cycles, swi, code := impl.StepCpu(c, m)
		return x, y, []int{cycles, swi, code}
	}}}
	for _, line := range []int{-1, 0, 3, 7, 8} {
		for _, level := range []int{0, 1, 7, 8} {
			name := fmt.Sprint("EnterIrq of line ", line, " level ", level)
			list = append(list, cpuCall{name, func(c impl.Cpu, m impl.Mem) (impl.Cpu, impl.Mem, []int) {
				x, y, code := impl.EnterIrq(c, m, line, level)
				return x, y, []int{code}
			}})
		}
	}
	return list
}

type namedState struct {
	name string
	cpu  impl.Cpu
	mem  impl.Mem
}

// variousStates have every operation, a halted processor, and invalid ones of both kinds.
func variousStates() []namedState {
	m := patternMem(patternFlash(impl.StRead, 2))
	var list []namedState
	for op, row := range opRows() {
		for _, arg := range []int{0, min(70, max(row.arg, 0)), max(row.arg, 0)} {
			list = append(list, namedState{fmt.Sprint(row.word, " with ", arg), cpuAt(600), placedInstr(m, 600, op, 0, arg)})
		}
	}
	for _, at := range []int{70, 270, 597, 600, 767} {
		list = append(list, namedState{fmt.Sprint("st at ", at), cpuAt(620), placedInstr(m, 620, impl.OpSt, 3, at)})
	}
	list = append(list,
		namedState{"a trap", cpuAt(1000), m},
		namedState{"halted", withHalt(patternCpu(), true), m},
		namedState{"both invalid", impl.Cpu{}, impl.Mem{}})
	for _, x := range invalidCpus() {
		list = append(list, namedState{x.name, x.cpu, m})
	}
	for _, y := range invalidMems() {
		list = append(list, namedState{y.name, patternCpu(), y.mem})
	}
	return list
}

func TestPromise1CpuArgumentsStay(t *testing.T) {
	for _, x := range variousStates() {
		c, second, m := spareCpu(x.cpu), spareCpu(x.cpu), spareMem(x.mem)
		impl.CpuOK(c)
		impl.SameCpu(c, second)
		impl.SameCpu(c, patternCpu())
		for _, reg := range []int{-1, 0, 3, 4} {
			impl.RegAt(c, reg)
		}
		for _, f := range cpuCalls() {
			f.call(c, m)
			if !cpuStays(c, x.cpu) || !cpuStays(second, x.cpu) || !memStays(m, x.mem) {
				t.Fatal("argument changed by", f.name, "of", x.name)
			}
		}
	}
}

func TestPromise1CpuResultsAreNewMemory(t *testing.T) {
	for _, x := range variousStates() {
		for _, f := range cpuCalls() {
			c, m := spareCpu(x.cpu), spareMem(x.mem)
			got, mem, _ := f.call(c, m)
			scribbleNumbers(got.Regs)
			scribbleMem(mem)
			if !cpuStays(c, x.cpu) || !memStays(m, x.mem) {
				t.Error("the result shares memory with the argument:", f.name, "of", x.name)
			}
			got, mem, _ = f.call(c, m)
			wantC, wantM := copyCpu(got), copyMem(mem)
			scribbleNumbers(c.Regs)
			scribbleMem(m)
			if !equalCpus(got, wantC) || !equalMems(mem, wantM) {
				t.Error("the argument shares memory with the result:", f.name, "of", x.name)
			}
		}
	}
}

func TestPromise1CpuResultsAreApart(t *testing.T) {
	for _, x := range variousStates() {
		for _, f := range cpuCalls() {
			first, firstM, _ := f.call(x.cpu, x.mem)
			second, secondM, _ := f.call(x.cpu, x.mem)
			wantC, wantM := copyCpu(second), copyMem(secondM)
			scribbleNumbers(first.Regs)
			scribbleMem(firstM)
			if !equalCpus(second, wantC) || !equalMems(secondM, wantM) {
				t.Error("two results share memory:", f.name, "of", x.name)
			}
		}
	}
	scribbleNumbers(impl.NewCpu().Regs)
	wantCpu(t, "the second NewCpu", impl.NewCpu(), startCpu(), impl.OK)
}

// The registers are filled, then the memory of the same result: neither may show in the other.
func TestPromise1CpuSlicesOfAResultAreApart(t *testing.T) {
	for _, x := range variousStates() {
		for _, f := range cpuCalls() {
			c, m, _ := f.call(x.cpu, x.mem)
			want := copyMem(m)
			scribbleNumbers(c.Regs)
			if !equalMems(m, want) {
				t.Error("the registers are memory of the same result:", f.name, "of", x.name)
			}
			wantApart(t, f.name+" of "+x.name, m)
			for _, v := range c.Regs {
				if v != 1234 {
					t.Fatal("the memory is registers of the same result:", f.name, "of", x.name)
				}
			}
		}
	}
}

// readOf is all that the functions without a memory return.
func readOf(c impl.Cpu) string {
	all := []int{}
	for reg := -1; reg <= 4; reg++ {
		v, code := impl.RegAt(c, reg)
		all = append(all, v, code)
	}
	return fmt.Sprint(impl.CpuOK(c), impl.SameCpu(c, patternCpu()), impl.SameCpu(patternCpu(), c), all)
}

func TestPromise1CpuEqualCallsEqualResults(t *testing.T) {
	other := placedInstr(patternMem(patternFlash(impl.StErase2)), 512, impl.OpSwi, 0, 77)
	for _, x := range variousStates() {
		read := readOf(x.cpu)
		for _, f := range cpuCalls() {
			first, firstM, numbers := f.call(x.cpu, x.mem)
			for _, g := range cpuCalls()[:4] {
				g.call(startCpu(), other)
			}
			again, againM, numbersAgain := f.call(spareCpu(x.cpu), spareMem(x.mem))
			if !equalCpus(first, again) || !equalMems(firstM, againM) || !slices.Equal(numbers, numbersAgain) {
				t.Error("the second call differs:", f.name, "of", x.name)
			}
		}
		if again := readOf(spareCpu(x.cpu)); again != read {
			t.Error("the second RegAt, CpuOK or SameCpu differs:", x.name, again, "and not", read)
		}
	}
	wantCpu(t, "NewCpu after all", impl.NewCpu(), startCpu(), impl.OK)
}

func TestPromise1CpuEmptyAndNilAreTheSame(t *testing.T) {
	none := cpuWith(patternCpu(), func(c *impl.Cpu) { c.Regs = nil })
	empty := cpuWith(patternCpu(), func(c *impl.Cpu) { c.Regs = []int{} })
	if !impl.SameCpu(none, empty) || !impl.SameCpu(empty, none) || !impl.SameCpu(impl.Cpu{}, impl.Cpu{Regs: []int{}}) {
		t.Error("SameCpu distinguishes nil from an empty slice")
	}
	emptyMem := impl.Mem{Ram: []int{}, Io: []int{}, Flash: impl.Flash{Cells: []int{}, Guard: []bool{}}}
	m := patternMem(patternFlash(impl.StRead))
	for _, c := range []impl.Cpu{none, empty} {
		if impl.CpuOK(c) {
			t.Error("CpuOK without registers")
		}
		if v, code := impl.RegAt(c, 0); v != 0 || code != impl.ErrBad {
			t.Error("RegAt without registers:", v, code)
		}
		wantNoStep(t, "no registers", c, m)
		wantNotEntered(t, "no registers", c, m, 0, 1, impl.ErrBad)
	}
	for _, y := range []impl.Mem{{}, emptyMem} {
		wantNoStep(t, "no memory", patternCpu(), y)
		wantNotEntered(t, "no memory", patternCpu(), y, 0, 1, impl.ErrBad)
	}
}
