package tests

import (
	"fmt"
	"slices"
	"testing"

	"loop.example/g00563/impl"
)

// spareMem puts marked elements behind the end of all slices, where a careless append would write.
func spareMem(m impl.Mem) impl.Mem {
	return impl.Mem{Ram: spareNumbers(m.Ram), Io: spareNumbers(m.Io), Flash: spareFlash(m.Flash)}
}

func memStays(m, want impl.Mem) bool {
	return numbersStay(m.Ram, want.Ram) && numbersStay(m.Io, want.Io) && flashStays(m.Flash, want.Flash)
}

func scribbleMem(m impl.Mem) {
	scribbleNumbers(m.Ram)
	scribbleNumbers(m.Io)
	scribbleFlash(m.Flash)
}

func everyPut() []busCycle {
	puts := []busCycle{{597, 170}, {554, 85}, {597, 160}, {597, 16}, {600, 48}, {700, 0}, {512, 240}, {-1, 0}, {4096, 0}, {0, 256}, {300, -1}}
	for _, at := range edgeAddresses() {
		puts = append(puts, busCycle{at, 170})
	}
	return puts
}

func TestPromise1BusArgumentsStay(t *testing.T) {
	for _, x := range allMems() {
		m, second := spareMem(x.mem), spareMem(x.mem)
		impl.MemOK(m)
		impl.SameMem(m, second)
		impl.SameMem(m, patternMem(patternFlash(0)))
		for _, c := range everyPut() {
			impl.BusGet(m, c.at)
			impl.BusPut(m, c.at, c.v)
			if !memStays(m, x.mem) || !memStays(second, x.mem) {
				t.Fatal("argument changed by a call with", c, "and", x.name)
			}
		}
	}
}

func TestPromise1BusResultsAreNewMemory(t *testing.T) {
	for _, x := range validMems() {
		for _, c := range everyPut() {
			m := spareMem(x.mem)
			got, _ := impl.BusPut(m, c.at, c.v)
			scribbleMem(got)
			if !memStays(m, x.mem) {
				t.Error("the result shares memory with the argument:", c, "of", x.name)
			}
			got, _ = impl.BusPut(m, c.at, c.v)
			want := copyMem(got)
			scribbleMem(m)
			if !equalMems(got, want) {
				t.Error("the argument shares memory with the result:", c, "of", x.name)
			}
		}
	}
}

// wantApart fills the slices of one result one after the other: none of them may show in another one.
func wantApart(t *testing.T, what string, m impl.Mem) {
	t.Helper()
	lists := [][]int{m.Ram[:cap(m.Ram)], m.Io[:cap(m.Io)], m.Flash.Cells[:cap(m.Flash.Cells)]}
	for i, list := range lists {
		for at := range list {
			list[at] = 1000 + i
		}
	}
	for i, list := range lists {
		for _, v := range list {
			if v != 1000+i {
				t.Fatal("two slices of a result share memory:", what)
			}
		}
	}
}

func TestPromise1BusSlicesOfAResultAreApart(t *testing.T) {
	for _, n := range []int{0, 1, 256} {
		m, _ := impl.NewMem(programOf(n))
		wantApart(t, fmt.Sprint("NewMem of ", n, " bytes"), m)
	}
	for _, at := range edgeAddresses() {
		wantApart(t, fmt.Sprint("BusPut at ", at), mustPut(t, patternMem(patternFlash(0)), busCycle{at, 170}))
	}
}

func TestPromise1NewMem(t *testing.T) {
	for _, program := range [][]int{programOf(0), programOf(1), programOf(255), programOf(256), programOf(257), {1, 256}, {-1}, programOf(4097)} {
		spare := spareNumbers(program)
		first, code := impl.NewMem(spare)
		want := copyMem(first)
		again, codeAgain := impl.NewMem(program)
		scribbleMem(again)
		if !numbersStay(spare, program) {
			t.Error("NewMem changes its argument of", len(program), "elements")
		}
		scribbleNumbers(spare)
		if code != codeAgain || !equalMems(first, want) {
			t.Error("NewMem shares memory, or the second call differs:", len(program), "elements")
		}
		if third, c := impl.NewMem(program); c != code || !equalMems(third, want) {
			t.Error("the third NewMem differs:", len(program), "elements")
		}
	}
}

func TestPromise1BusEqualCallsEqualResults(t *testing.T) {
	for _, x := range allMems() {
		for _, c := range everyPut() {
			first, code := impl.BusPut(x.mem, c.at, c.v)
			v, codeGet := impl.BusGet(x.mem, c.at)
			for _, other := range everyPut()[:8] {
				impl.BusPut(patternMem(patternFlash(impl.StErase2)), other.at, other.v)
			}
			again, codeAgain := impl.BusPut(spareMem(x.mem), c.at, c.v)
			if code != codeAgain || !equalMems(first, again) {
				t.Error("the second BusPut differs:", c, "of", x.name)
			}
			if w, codeW := impl.BusGet(spareMem(x.mem), c.at); v != w || codeGet != codeW {
				t.Error("the second BusGet differs:", c.at, "of", x.name)
			}
		}
		if impl.MemOK(x.mem) != impl.MemOK(spareMem(x.mem)) || !impl.SameMem(x.mem, spareMem(x.mem)) {
			t.Error("MemOK or SameMem depends on the capacity:", x.name)
		}
	}
}

func TestPromise1RegionDoesNotDependOnEarlierCalls(t *testing.T) {
	regions := func() []int {
		var all []int
		for _, at := range append(edgeAddresses(), farAddresses()...) {
			region, offset, code := impl.Region(at)
			all = append(all, region, offset, code)
		}
		return all
	}
	if first := regions(); !slices.Equal(first, regions()) {
		t.Error("the second Region differs")
	}
}

func TestPromise1BusEmptyAndNilAreTheSame(t *testing.T) {
	empty := impl.Mem{Ram: []int{}, Io: []int{}, Flash: impl.Flash{Cells: []int{}, Guard: []bool{}}}
	if !impl.SameMem(impl.Mem{}, empty) || !impl.SameMem(empty, impl.Mem{}) {
		t.Error("SameMem distinguishes nil from an empty slice")
	}
	for _, m := range []impl.Mem{{}, empty} {
		if impl.MemOK(m) {
			t.Error("MemOK without bytes")
		}
		got, code := impl.BusPut(m, 0, 0)
		wantNoMem(t, "BusPut without bytes", got, code, impl.ErrBad)
		if v, code := impl.BusGet(m, 300); v != 0 || code != impl.ErrBad {
			t.Error("BusGet without bytes:", v, code)
		}
	}
	for _, program := range [][]int{nil, {}} {
		m, code := impl.NewMem(program)
		wantMem(t, "NewMem of no program", m, memOf(erasedFlash(0)), code)
	}
}
