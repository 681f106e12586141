package tests

import (
	"math"
	"slices"
	"testing"

	"loop.example/g00563/impl"
)

const (
	flashBytes  = 256
	flashBlocks = 16
	flashStates = 9
)

// equalFlashes does not use SameFlash, so that a wrong SameFlash cannot hide another mistake.
func equalFlashes(a, b impl.Flash) bool {
	return slices.Equal(a.Cells, b.Cells) && slices.Equal(a.Guard, b.Guard) && a.State == b.State
}

func isZeroFlash(f impl.Flash) bool {
	return len(f.Cells) == 0 && len(f.Guard) == 0 && f.State == 0
}

func copyFlash(f impl.Flash) impl.Flash {
	return impl.Flash{Cells: slices.Clone(f.Cells), Guard: slices.Clone(f.Guard), State: f.State}
}

// erasedFlash does not use NewFlash.
func erasedFlash(state int) impl.Flash {
	return impl.Flash{
		Cells: slices.Repeat([]int{255}, flashBytes),
		Guard: make([]bool, flashBlocks),
		State: state,
	}
}

func withState(f impl.Flash, state int) impl.Flash {
	f = copyFlash(f)
	f.State = state
	return f
}

func withCell(f impl.Flash, at, v int) impl.Flash {
	f = copyFlash(f)
	f.Cells[at] = v
	return f
}

func withGuard(f impl.Flash, blocks ...int) impl.Flash {
	f = copyFlash(f)
	for _, block := range blocks {
		f.Guard[block] = true
	}
	return f
}

func withErased(f impl.Flash, blocks ...int) impl.Flash {
	f = copyFlash(f)
	for _, block := range blocks {
		for at := 16 * block; at < 16*block+16; at++ {
			f.Cells[at] = 255
		}
	}
	return f
}

// patternFlash has a different byte at each offset; 37 is odd, so none occurs twice.
func patternFlash(state int, blocks ...int) impl.Flash {
	f := erasedFlash(state)
	for at := range f.Cells {
		f.Cells[at] = (at*37 + 11) % 256
	}
	return withGuard(f, blocks...)
}

type busCycle struct{ at, v int }

func unlockCycles(command int) []busCycle {
	return []busCycle{{85, 170}, {42, 85}, {85, command}}
}

func programCycles(at, v int) []busCycle {
	return append(unlockCycles(160), busCycle{at, v})
}

func eraseCycles(at, v int) []busCycle {
	return append(unlockCycles(128), busCycle{85, 170}, busCycle{42, 85}, busCycle{at, v})
}

func guardCycles(at, v int) []busCycle {
	return append(unlockCycles(154), busCycle{at, v})
}

type flashCommand struct {
	name   string
	cycles []busCycle
	want   impl.Flash
}

// flashCommands have what they leave of a flash that reads, and of which block 2 alone is protected.
func flashCommands(f impl.Flash) []flashCommand {
	return []flashCommand{
		{"program", programCycles(100, 90), withCell(f, 100, f.Cells[100]&90)},
		{"program a protected byte", programCycles(32, 0), f},
		{"erase a block", eraseCycles(97, 48), withErased(f, 6)},
		{"erase a protected block", eraseCycles(47, 48), f},
		{"erase everything", eraseCycles(85, 16), allErased(f, 0, 0)},
		{"erase everything elsewhere", eraseCycles(84, 16), f},
		{"protect", guardCycles(113, 0), withGuard(f, 7)},
		{"identify", unlockCycles(144), withState(f, impl.StAuto)},
		{"identify and leave", append(unlockCycles(144), busCycle{0, 240}), f},
		{"broken", append(unlockCycles(160)[:2], busCycle{100, 0}, busCycle{100, 0}), f},
	}
}

func mustCycles(t *testing.T, f impl.Flash, cycles ...busCycle) impl.Flash {
	t.Helper()
	for _, c := range cycles {
		next, code := impl.BusWrite(f, c.at, c.v)
		if code != impl.OK || !impl.FlashOK(next) {
			t.Fatalf("BusWrite of %d at %d in state %d: code %d", c.v, c.at, f.State, code)
		}
		f = next
	}
	return f
}

func wantBytes(t *testing.T, f impl.Flash, at int, want ...int) {
	t.Helper()
	for i, v := range want {
		if got, code := impl.BusRead(f, at+i); got != v || code != impl.OK {
			t.Errorf("BusRead of %d in state %d = %d, code %d, not %d", at+i, f.State, got, code, v)
		}
	}
}

func wantFlash(t *testing.T, what string, got, want impl.Flash, code int) {
	t.Helper()
	if code != impl.OK || !equalFlashes(got, want) {
		t.Errorf("%s: code %d, state %d, not %d; bytes %v, not %v; protected %v, not %v",
			what, code, got.State, want.State, got.Cells, want.Cells, got.Guard, want.Guard)
	}
}

type namedFlash struct {
	name  string
	flash impl.Flash
}

func validFlashes() []namedFlash {
	all := []namedFlash{
		{"byte 0 at the start", withCell(erasedFlash(impl.StRead), 0, 0)},
		{"byte 255 at the start", withCell(patternFlash(impl.StRead), 0, 255)},
		{"byte 0 at the end", withCell(erasedFlash(impl.StRead), 255, 0)},
		{"byte 255 at the end", withCell(patternFlash(impl.StRead), 255, 255)},
		{"all bytes 0", impl.Flash{Cells: make([]int, 256), Guard: make([]bool, 16)}},
		{"all blocks protected", withGuard(patternFlash(impl.StRead), 0, 1, 2, 3, 4, 5, 6, 7, 8, 9, 10, 11, 12, 13, 14, 15)},
	}
	names := []string{"StRead", "StUnlock", "StCommand", "StProgram", "StErase", "StErase1", "StErase2", "StAuto", "StGuard"}
	for state, name := range names {
		all = append(all, namedFlash{"erased, " + name, erasedFlash(state)})
		all = append(all, namedFlash{"pattern, " + name, patternFlash(state)})
		all = append(all, namedFlash{"partly protected, " + name, patternFlash(state, 0, 2, 5, 15)})
	}
	return all
}

func withCells(n, v int) impl.Flash {
	f := erasedFlash(0)
	f.Cells = slices.Repeat([]int{v}, n)
	return f
}

func withGuards(n int) impl.Flash {
	f := erasedFlash(0)
	f.Guard = make([]bool, n)
	return f
}

func invalidFlashes() []namedFlash {
	all := []namedFlash{
		{"zero", impl.Flash{}},
		{"empty slices", impl.Flash{Cells: []int{}, Guard: []bool{}}},
		{"no bytes", withCells(0, 0)},
		{"1 byte", withCells(1, 0)},
		{"255 bytes", withCells(255, 255)},
		{"257 bytes", withCells(257, 255)},
		{"MaxList + 1 bytes", withCells(impl.MaxList+1, 0)},
		{"no blocks", withGuards(0)},
		{"15 blocks", withGuards(15)},
		{"17 blocks", withGuards(17)},
		{"MaxList + 1 blocks", withGuards(impl.MaxList + 1)},
	}
	for _, at := range []int{0, 100, 255} {
		for _, v := range []int{-1, 256, math.MinInt, math.MaxInt, 1 << 32, 255 - 1<<40} {
			all = append(all, namedFlash{"a cell that is no byte", withCell(patternFlash(0, 3), at, v)})
		}
	}
	for _, state := range []int{-1, 9, 16, 256, math.MinInt, math.MaxInt} {
		all = append(all, namedFlash{"another state", patternFlash(state, 3)})
	}
	return all
}

func allFlashes() []namedFlash {
	return append(validFlashes(), invalidFlashes()...)
}
