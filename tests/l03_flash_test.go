package tests

import (
	"fmt"
	"math"
	"testing"

	"loop.example/g00563/impl"
)

// farNumbers are out of range for offsets, blocks and bytes; some of them are in range once they are cut to fewer bits.
func farNumbers() []int {
	return []int{-1, -16, -255, -256, 256, 257, 512, 1 << 16, 1 << 32, 1<<32 + 85, -1 << 32, math.MinInt, math.MinInt + 1, math.MaxInt}
}

func TestFlashConstants(t *testing.T) {
	got := []int{impl.FlashSize, impl.Blocks, impl.PerBlock, impl.MakerId, impl.DeviceId,
		impl.StRead, impl.StUnlock, impl.StCommand, impl.StProgram, impl.StErase, impl.StErase1, impl.StErase2, impl.StAuto, impl.StGuard}
	want := []int{256, 16, 16, 32, 47, 0, 1, 2, 3, 4, 5, 6, 7, 8}
	for i := range want {
		if got[i] != want[i] {
			t.Error("constant", i, "is", got[i], "not", want[i])
		}
	}
}

func TestNewFlash(t *testing.T) {
	if f := impl.NewFlash(); !equalFlashes(f, erasedFlash(0)) || !impl.FlashOK(f) {
		t.Error("NewFlash is", f)
	}
}

func TestFlashOK(t *testing.T) {
	for _, x := range validFlashes() {
		if !impl.FlashOK(x.flash) {
			t.Error("not valid:", x.name)
		}
	}
	for _, x := range invalidFlashes() {
		if impl.FlashOK(x.flash) {
			t.Error("valid:", x.name)
		}
	}
	for v := -2; v < 300; v++ {
		for _, at := range []int{0, 1, 128, 255} {
			if impl.FlashOK(withCell(erasedFlash(0), at, v)) != (v >= 0 && v <= 255) {
				t.Error("FlashOK with byte", v, "at", at)
			}
		}
		if impl.FlashOK(erasedFlash(v)) != (v >= 0 && v <= 8) {
			t.Error("FlashOK with state", v)
		}
	}
}

func TestSameFlash(t *testing.T) {
	for _, x := range allFlashes() {
		if !impl.SameFlash(x.flash, copyFlash(x.flash)) {
			t.Error("not the same as itself:", x.name)
		}
		for _, y := range allFlashes() {
			if impl.SameFlash(x.flash, y.flash) != equalFlashes(x.flash, y.flash) {
				t.Error("SameFlash of", x.name, "and", y.name)
			}
		}
	}
}

func TestSameFlashOneDifference(t *testing.T) {
	f := patternFlash(3, 4)
	differs := func(what string, a, b impl.Flash) {
		t.Helper()
		if impl.SameFlash(a, b) || impl.SameFlash(b, a) {
			t.Error("the same in spite of", what)
		}
	}
	for at := range 256 {
		differs(fmt.Sprint("byte ", at), f, withCell(f, at, f.Cells[at]^1))
		differs(fmt.Sprint("invalid byte ", at), f, withCell(f, at, f.Cells[at]+256))
	}
	for block := range 16 {
		other := copyFlash(f)
		other.Guard[block] = !other.Guard[block]
		differs(fmt.Sprint("block ", block), f, other)
	}
	for _, state := range []int{-1, 0, 2, 4, 8, 9, 3 + 1<<32} {
		differs(fmt.Sprint("state ", state), f, withState(f, state))
	}
	short := copyFlash(f)
	short.Cells = short.Cells[:255]
	differs("a missing byte", f, short)
	short = copyFlash(f)
	short.Guard = short.Guard[:15]
	differs("a missing block", f, short)
}

func TestBlockOf(t *testing.T) {
	for at := range 256 {
		block, code := impl.BlockOf(at)
		if code != impl.OK || at < 16*block || at > 16*block+15 {
			t.Error("BlockOf", at, "is", block, "code", code)
		}
	}
	for at, want := range map[int]int{0: 0, 15: 0, 16: 1, 31: 1, 240: 15, 255: 15} {
		if block, code := impl.BlockOf(at); block != want || code != impl.OK {
			t.Error("BlockOf", at, "is", block, "code", code)
		}
	}
	for _, at := range farNumbers() {
		if block, code := impl.BlockOf(at); block != 0 || code != impl.ErrRange {
			t.Error("BlockOf", at, "is", block, "code", code)
		}
	}
}

func TestFlashExamplesOfProgramming(t *testing.T) {
	f := mustCycles(t, impl.NewFlash(), programCycles(100, 90)...)
	wantFlash(t, "90", f, withCell(erasedFlash(0), 100, 90), impl.OK)
	f = mustCycles(t, f, programCycles(100, 240)...)
	wantFlash(t, "240", f, withCell(erasedFlash(0), 100, 80), impl.OK)
	wantBytes(t, f, 99, 255, 80, 255)
}

func TestFlashExamplesOfReading(t *testing.T) {
	f := mustCycles(t, impl.NewFlash(), busCycle{85, 170}, busCycle{85, 170})
	wantFlash(t, "170 twice", f, erasedFlash(impl.StRead), impl.OK)
	f = mustCycles(t, impl.NewFlash(), unlockCycles(144)...)
	wantFlash(t, "144", f, erasedFlash(impl.StAuto), impl.OK)
	wantBytes(t, f, 100, 32, 47, 0, 255)
	f = mustCycles(t, f, busCycle{3, 239})
	wantBytes(t, f, 100, 32, 47, 0, 255)
	f = mustCycles(t, f, busCycle{3, 240})
	wantFlash(t, "240", f, erasedFlash(impl.StRead), impl.OK)
	wantBytes(t, f, 100, 255, 255, 255, 255)
}

func TestFlashExamplesOfErasing(t *testing.T) {
	f := mustCycles(t, patternFlash(0), eraseCycles(97, 48)...)
	wantFlash(t, "48 at 97", f, withErased(patternFlash(0), 6), impl.OK)
	f = mustCycles(t, impl.NewFlash(), guardCycles(113, 0)...)
	wantFlash(t, "0 at 113", f, withGuard(erasedFlash(0), 7), impl.OK)
	f = mustCycles(t, patternFlash(0), guardCycles(113, 0)...)
	want := patternFlash(0, 7)
	for at := 112; at < 128; at++ {
		f = mustCycles(t, f, programCycles(at, 0)...)
		f = mustCycles(t, f, eraseCycles(at, 48)...)
		wantFlash(t, "protected block 7", f, want, impl.OK)
	}
}

func TestProgramCell(t *testing.T) {
	for state := range flashStates {
		f := patternFlash(state, 0, 2, 15)
		for _, at := range []int{0, 15, 16, 31, 32, 47, 48, 239, 240, 255, 85, 42} {
			for v := range 256 {
				want := copyFlash(f)
				if block := at / 16; block != 0 && block != 2 && block != 15 {
					want.Cells[at] = f.Cells[at] & v
				}
				got, code := impl.ProgramCell(f, at, v)
				wantFlash(t, fmt.Sprint("ProgramCell ", at, v), got, want, code)
			}
		}
	}
}

func TestProgramCellEachByte(t *testing.T) {
	for old := range 256 {
		for v := range 256 {
			got, code := impl.ProgramCell(withCell(erasedFlash(0), 200, old), 200, v)
			if code != impl.OK || got.Cells[200] != old&v {
				t.Fatal("ProgramCell of", v, "over", old, "is", got.Cells, "code", code)
			}
		}
	}
}

func TestEraseBlock(t *testing.T) {
	for state := range flashStates {
		f := patternFlash(state, 0, 3, 14)
		for block := range 16 {
			want := withErased(f, block)
			if block == 0 || block == 3 || block == 14 {
				want = f
			}
			got, code := impl.EraseBlock(f, block)
			wantFlash(t, fmt.Sprint("EraseBlock ", block), got, want, code)
			again, code := impl.EraseBlock(got, block)
			wantFlash(t, fmt.Sprint("EraseBlock again ", block), again, want, code)
		}
	}
}

func TestGuardBlock(t *testing.T) {
	for state := range flashStates {
		f := patternFlash(state, 0, 3)
		for block := range 16 {
			got, code := impl.GuardBlock(f, block)
			wantFlash(t, fmt.Sprint("GuardBlock ", block), got, withGuard(f, block), code)
		}
	}
}

func TestBusRead(t *testing.T) {
	for state := range flashStates {
		f := patternFlash(state, 0, 3, 15)
		for at := range 256 {
			want := f.Cells[at]
			if state == impl.StAuto {
				want = []int{32, 47, 0, 255}[at%4]
				if block := at / 16; at%4 == 2 && (block == 0 || block == 3 || block == 15) {
					want = 1
				}
			}
			wantBytes(t, f, at, want)
		}
	}
}

type flashCall struct {
	name string
	call func(f impl.Flash) (impl.Flash, int)
}

func onFlash(name string, call func(f impl.Flash, at, v int) (impl.Flash, int), at, v int) flashCall {
	return flashCall{fmt.Sprint(name, " ", at, " ", v), func(f impl.Flash) (impl.Flash, int) { return call(f, at, v) }}
}

func onBlock(name string, call func(f impl.Flash, block int) (impl.Flash, int), block int) flashCall {
	return flashCall{fmt.Sprint(name, " ", block), func(f impl.Flash) (impl.Flash, int) { return call(f, block) }}
}

func flashCallsInRange() []flashCall {
	var calls []flashCall
	for _, at := range []int{0, 15, 16, 42, 85, 255} {
		for _, v := range []int{0, 16, 48, 85, 144, 154, 170, 240, 255} {
			calls = append(calls, onFlash("BusWrite", impl.BusWrite, at, v), onFlash("ProgramCell", impl.ProgramCell, at, v))
		}
	}
	for _, block := range []int{0, 1, 15} {
		calls = append(calls, onBlock("EraseBlock", impl.EraseBlock, block), onBlock("GuardBlock", impl.GuardBlock, block))
	}
	return calls
}

func flashCallsOutOfRange() []flashCall {
	var calls []flashCall
	for _, far := range farNumbers() {
		for _, place := range []busCycle{{far, 0}, {far, 255}, {far, far}, {0, far}, {85, far}, {255, far}} {
			calls = append(calls, onFlash("BusWrite", impl.BusWrite, place.at, place.v))
			calls = append(calls, onFlash("ProgramCell", impl.ProgramCell, place.at, place.v))
		}
	}
	for _, far := range append(farNumbers(), 16, 17, 255) {
		calls = append(calls, onBlock("EraseBlock", impl.EraseBlock, far), onBlock("GuardBlock", impl.GuardBlock, far))
	}
	return calls
}

func TestFlashCodes(t *testing.T) {
	for _, c := range flashCallsInRange() {
		for _, x := range validFlashes() {
			if got, code := c.call(x.flash); code != impl.OK || !impl.FlashOK(got) {
				t.Error(c.name, "of", x.name, "code", code)
			}
		}
	}
	for _, c := range flashCallsOutOfRange() {
		for _, x := range validFlashes() {
			if got, code := c.call(x.flash); code != impl.ErrRange || !isZeroFlash(got) {
				t.Error(c.name, "of", x.name, "code", code)
			}
		}
	}
	for _, c := range append(flashCallsInRange(), flashCallsOutOfRange()...) {
		for _, x := range invalidFlashes() {
			if got, code := c.call(x.flash); code != impl.ErrBad || !isZeroFlash(got) {
				t.Error(c.name, "of", x.name, "code", code)
			}
		}
	}
}

func TestBusReadCodes(t *testing.T) {
	for _, x := range validFlashes() {
		for _, at := range farNumbers() {
			if v, code := impl.BusRead(x.flash, at); v != 0 || code != impl.ErrRange {
				t.Error("BusRead of", at, "in", x.name, "is", v, "code", code)
			}
		}
	}
	for _, x := range invalidFlashes() {
		for _, at := range append(farNumbers(), 0, 85, 100, 255) {
			if v, code := impl.BusRead(x.flash, at); v != 0 || code != impl.ErrBad {
				t.Error("BusRead of", at, "in", x.name, "is", v, "code", code)
			}
		}
	}
}
