package tests

import (
	"fmt"
	"testing"

	"loop.example/g00563/impl"
)

const anyNumber = -1

// cycleRow is a row of the table of chapter 4: what a cycle in a state does, and the state after it.
type cycleRow struct {
	state, at, v int
	next         int
	effect       func(f impl.Flash, at, v int) impl.Flash
}

func stay(f impl.Flash, _, _ int) impl.Flash {
	return copyFlash(f)
}

func programmed(f impl.Flash, at, v int) impl.Flash {
	if f.Guard[at/16] {
		return copyFlash(f)
	}
	return withCell(f, at, f.Cells[at]&v)
}

func blockErased(f impl.Flash, at, _ int) impl.Flash {
	if f.Guard[at/16] {
		return copyFlash(f)
	}
	return withErased(f, at/16)
}

func allErased(f impl.Flash, _, _ int) impl.Flash {
	for block := range 16 {
		f = blockErased(f, 16*block, 0)
	}
	return f
}

func guarded(f impl.Flash, at, _ int) impl.Flash {
	return withGuard(f, at/16)
}

// cycleRows begins with 240 in StAuto, because the row behind it is for every other byte.
func cycleRows() []cycleRow {
	return []cycleRow{
		{7, anyNumber, 240, 0, stay},
		{7, anyNumber, anyNumber, 7, stay},
		{0, 85, 170, 1, stay},
		{1, 42, 85, 2, stay},
		{2, 85, 160, 3, stay},
		{2, 85, 128, 4, stay},
		{2, 85, 144, 7, stay},
		{2, 85, 154, 8, stay},
		{3, anyNumber, anyNumber, 0, programmed},
		{4, 85, 170, 5, stay},
		{5, 42, 85, 6, stay},
		{6, anyNumber, 48, 0, blockErased},
		{6, 85, 16, 0, allErased},
		{8, anyNumber, anyNumber, 0, guarded},
	}
}

func (r cycleRow) fits(state, at, v int) bool {
	return r.state == state && (r.at == anyNumber || r.at == at) && (r.v == anyNumber || r.v == v)
}

func rowOf(state, at, v int) cycleRow {
	for _, r := range cycleRows() {
		if r.fits(state, at, v) {
			return r
		}
	}
	return cycleRow{state, at, v, 0, stay}
}

func afterCycle(f impl.Flash, at, v int) impl.Flash {
	r := rowOf(f.State, at, v)
	return withState(r.effect(f, at, v), r.next)
}

func TestBusWriteEveryCycle(t *testing.T) {
	for state := range flashStates {
		f := patternFlash(state, 0, 2, 5, 15)
		for at := range 256 {
			for v := range 256 {
				got, code := impl.BusWrite(f, at, v)
				if want := afterCycle(f, at, v); code != impl.OK || !equalFlashes(got, want) {
					wantFlash(t, fmt.Sprint(v, " at ", at, " in state ", state), got, want, code)
					t.FailNow()
				}
			}
		}
	}
}

func TestBusWriteWithoutProtection(t *testing.T) {
	for state := range flashStates {
		f := patternFlash(state)
		for _, at := range []int{0, 15, 16, 41, 42, 43, 84, 85, 86, 170, 240, 255} {
			for v := range 256 {
				got, code := impl.BusWrite(f, at, v)
				wantFlash(t, fmt.Sprint(v, " at ", at, " in state ", state), got, afterCycle(f, at, v), code)
			}
		}
	}
}

// The states are written here as numbers a second time, row by row, so that a mistake in the table of the tests shows.
func TestBusWriteNextStates(t *testing.T) {
	named := map[[3]int]int{
		{0, 85, 170}: 1, {1, 42, 85}: 2, {4, 85, 170}: 5, {5, 42, 85}: 6,
		{2, 85, 160}: 3, {2, 85, 128}: 4, {2, 85, 144}: 7, {2, 85, 154}: 8,
	}
	for state := range flashStates {
		f := erasedFlash(state)
		for _, at := range []int{0, 41, 42, 43, 84, 85, 86, 255} {
			for v := range 256 {
				want := named[[3]int{state, at, v}]
				if state == 7 && v != 240 {
					want = 7
				}
				if got, code := impl.BusWrite(f, at, v); got.State != want || code != impl.OK {
					t.Error("state", state, "after", v, "at", at, "is", got.State, "not", want, "code", code)
				}
			}
		}
	}
}

func TestBusWriteErases(t *testing.T) {
	for _, blocks := range [][]int{nil, {0}, {5}, {15}, {0, 5, 9, 15}} {
		f := patternFlash(impl.StErase2, blocks...)
		all := mustCycles(t, f, busCycle{85, 16})
		wantFlash(t, "16 at 85", all, withState(allErased(f, 0, 0), impl.StRead), impl.OK)
		for _, at := range []int{0, 42, 80, 84, 86, 95, 255} {
			other := mustCycles(t, f, busCycle{at, 16})
			wantFlash(t, fmt.Sprint("16 at ", at), other, withState(f, impl.StRead), impl.OK)
		}
		for at := range 256 {
			one := mustCycles(t, f, busCycle{at, 48})
			wantFlash(t, fmt.Sprint("48 at ", at), one, withState(blockErased(f, at, 0), impl.StRead), impl.OK)
		}
	}
}

func TestBusWriteGuardsAnyBlock(t *testing.T) {
	for at := range 256 {
		f := mustCycles(t, patternFlash(impl.StRead, 4), guardCycles(at, 255-at)...)
		wantFlash(t, fmt.Sprint("guard ", at), f, patternFlash(impl.StRead, 4, at/16), impl.OK)
	}
}

// A cycle that does not continue a sequence ends it: it is not taken as the first cycle of a new one.
func TestBusWriteBrokenSequences(t *testing.T) {
	for _, cycles := range [][]busCycle{programCycles(100, 0), eraseCycles(100, 48), eraseCycles(85, 16), guardCycles(100, 0)} {
		for broken := 1; broken < len(cycles)-1; broken++ {
			f := mustCycles(t, patternFlash(impl.StRead), cycles[:broken]...)
			f = mustCycles(t, f, busCycle{1, 1})
			wantFlash(t, "a wrong cycle", f, patternFlash(impl.StRead), impl.OK)
			f = mustCycles(t, f, cycles[broken:]...)
			if !equalFlashes(withState(f, impl.StRead), patternFlash(impl.StRead)) {
				t.Error("a broken sequence has an effect", broken, cycles)
			}
		}
	}
}
