package tests

import (
	"fmt"
	"math"
	"slices"
	"testing"

	"loop.example/g00563/impl"
)

func TestBusConstants(t *testing.T) {
	got := []int{impl.ReOpen, impl.ReRam, impl.ReIo, impl.ReFlash, impl.RamSize, impl.IoSize, impl.Open}
	if want := []int{0, 1, 2, 3, 256, 32, 255}; !slices.Equal(got, want) {
		t.Error("the constants are", got, "not", want)
	}
}

func TestMemOK(t *testing.T) {
	for _, x := range validMems() {
		if !impl.MemOK(x.mem) {
			t.Error("not valid:", x.name)
		}
	}
	for _, x := range invalidMems() {
		if impl.MemOK(x.mem) {
			t.Error("valid:", x.name)
		}
	}
}

func TestMemOKEachElement(t *testing.T) {
	m := patternMem(patternFlash(0, 3))
	for _, v := range []int{-1, 0, 1, 254, 255, 256} {
		want := v >= 0 && v <= 255
		for at := range ramBytes {
			if impl.MemOK(withRam(m, at, v)) != want {
				t.Error("MemOK with byte", v, "at", at)
			}
		}
		for at := range ioRegisters {
			if impl.MemOK(withIo(m, at, v)) != want {
				t.Error("MemOK with register", at, "of", v)
			}
		}
		for at := range flashBytes {
			if impl.MemOK(withMemFlash(m, withCell(m.Flash, at, v))) != want {
				t.Error("MemOK with byte", v, "of the flash at", at)
			}
		}
	}
}

func TestMemOKEachLength(t *testing.T) {
	for n := range 300 {
		if impl.MemOK(withRamBytes(n, 0)) != (n == 256) {
			t.Error("MemOK with", n, "bytes of work memory")
		}
		if impl.MemOK(withRegisters(n, 0)) != (n == 32) {
			t.Error("MemOK with", n, "registers")
		}
	}
}

func TestSameMemAnyTwo(t *testing.T) {
	all := allMems()
	for _, x := range all {
		if !impl.SameMem(x.mem, copyMem(x.mem)) {
			t.Error("not the same as itself:", x.name)
		}
		for _, y := range all {
			if impl.SameMem(x.mem, y.mem) != equalMems(x.mem, y.mem) {
				t.Error("SameMem of", x.name, "and", y.name)
			}
		}
	}
}

func wantDifferent(t *testing.T, what string, a, b impl.Mem) {
	t.Helper()
	if impl.SameMem(a, b) || impl.SameMem(b, a) {
		t.Error("the same in spite of", what)
	}
}

func TestSameMemOneDifference(t *testing.T) {
	m := patternMem(patternFlash(3, 4))
	for at := range ramBytes {
		wantDifferent(t, fmt.Sprint("byte ", at), m, withRam(m, at, m.Ram[at]^1))
		wantDifferent(t, fmt.Sprint("invalid byte ", at), m, withRam(m, at, m.Ram[at]+256))
	}
	for at := range ioRegisters {
		wantDifferent(t, fmt.Sprint("register ", at), m, withIo(m, at, m.Io[at]^1))
		wantDifferent(t, fmt.Sprint("invalid register ", at), m, withIo(m, at, m.Io[at]+256))
	}
	for at := range flashBytes {
		wantDifferent(t, fmt.Sprint("flash byte ", at), m, withMemFlash(m, withCell(m.Flash, at, m.Flash.Cells[at]^1)))
	}
	for block := range flashBlocks {
		f := copyFlash(m.Flash)
		f.Guard[block] = !f.Guard[block]
		wantDifferent(t, fmt.Sprint("block ", block), m, withMemFlash(m, f))
	}
	for _, state := range []int{-1, 0, 2, 4, 8, 9} {
		wantDifferent(t, fmt.Sprint("state ", state), m, withMemFlash(m, withState(m.Flash, state)))
	}
}

func TestSameMemOfInvalidMemories(t *testing.T) {
	m := patternMem(patternFlash(0, 4))
	for _, n := range []int{0, 1, 31, 255, 256} {
		short := copyMem(m)
		short.Ram = short.Ram[:n]
		if impl.SameMem(m, short) != (n == 256) || !impl.SameMem(short, copyMem(short)) {
			t.Error("SameMem with", n, "bytes of work memory")
		}
	}
	for _, n := range []int{0, 1, 31, 32} {
		short := copyMem(m)
		short.Io = short.Io[:n]
		if impl.SameMem(m, short) != (n == 32) || !impl.SameMem(short, copyMem(short)) {
			t.Error("SameMem with", n, "registers")
		}
	}
	for _, x := range invalidMems() {
		changed := withMemFlash(x.mem, withState(x.mem.Flash, x.mem.Flash.State^1))
		wantDifferent(t, "the state of an invalid memory: "+x.name, x.mem, changed)
	}
}

func programOf(n int) []int {
	program := make([]int, n)
	for i := range program {
		program[i] = (i*7 + 250) % 256
	}
	return program
}

func TestNewMem(t *testing.T) {
	for n := range flashBytes + 1 {
		program := programOf(n)
		want := memOf(erasedFlash(0))
		copy(want.Flash.Cells, program)
		got, code := impl.NewMem(program)
		wantMem(t, fmt.Sprint("NewMem of ", n, " bytes"), got, want, code)
	}
}

func TestNewMemOfOneByte(t *testing.T) {
	for v := range 256 {
		got, code := impl.NewMem([]int{v})
		wantMem(t, fmt.Sprint("NewMem of byte ", v), got, memOf(withCell(erasedFlash(0), 0, v)), code)
	}
}

func wantNoMem(t *testing.T, what string, m impl.Mem, code, want int) {
	t.Helper()
	if code != want || !isZeroMem(m) {
		t.Errorf("%s: code %d, not %d, with %d, %d and %d bytes", what, code, want, len(m.Ram), len(m.Io), len(m.Flash.Cells))
	}
}

func TestNewMemSizes(t *testing.T) {
	for n, want := range map[int]int{257: impl.ErrSize, 258: impl.ErrSize, 512: impl.ErrSize, 4095: impl.ErrSize, 4096: impl.ErrSize, 4097: impl.ErrLong, 70000: impl.ErrLong} {
		for _, v := range []int{0, 255, -1, 256, math.MaxInt} {
			m, code := impl.NewMem(slices.Repeat([]int{v}, n))
			wantNoMem(t, fmt.Sprint("NewMem of ", n, " times ", v), m, code, want)
		}
	}
}

func TestNewMemOfOtherNumbers(t *testing.T) {
	for _, v := range farNumbers() {
		for _, n := range []int{1, 2, 100, 256} {
			for _, at := range []int{0, n / 2, n - 1} {
				program := programOf(n)
				program[at] = v
				m, code := impl.NewMem(program)
				wantNoMem(t, fmt.Sprint("NewMem of ", n, " bytes with ", v, " at ", at), m, code, impl.ErrRange)
			}
		}
	}
}

func TestRegionEveryAddress(t *testing.T) {
	for at := range addressEnd {
		want, wantOffset := placeOf(at)
		if region, offset, code := impl.Region(at); region != want || offset != wantOffset || code != impl.OK {
			t.Error("Region", at, "is", region, offset, "code", code, "not", want, wantOffset)
		}
	}
}

func TestRegionEdges(t *testing.T) {
	for at, want := range map[int][2]int{
		0: {impl.ReRam, 0}, 1: {impl.ReRam, 1}, 255: {impl.ReRam, 255},
		256: {impl.ReIo, 0}, 257: {impl.ReIo, 1}, 287: {impl.ReIo, 31},
		288: {impl.ReOpen, 0}, 300: {impl.ReOpen, 0}, 511: {impl.ReOpen, 0},
		512: {impl.ReFlash, 0}, 513: {impl.ReFlash, 1}, 767: {impl.ReFlash, 255},
		768: {impl.ReOpen, 0}, 1024: {impl.ReOpen, 0}, 4095: {impl.ReOpen, 0},
	} {
		if region, offset, code := impl.Region(at); region != want[0] || offset != want[1] || code != impl.OK {
			t.Error("Region", at, "is", region, offset, "code", code, "not", want)
		}
	}
}

func TestRegionOfOtherNumbers(t *testing.T) {
	for _, at := range farAddresses() {
		if region, offset, code := impl.Region(at); region != 0 || offset != 0 || code != impl.ErrRange {
			t.Error("Region", at, "is", region, offset, "code", code)
		}
	}
}
