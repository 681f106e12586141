package tests

import (
	"fmt"
	"math"
	"slices"
	"testing"

	"loop.example/g00563/impl"
)

const (
	ramBytes    = 256
	ioRegisters = 32
	addressEnd  = 4096
)

// equalMems does not use SameMem, so that a wrong SameMem cannot hide another mistake.
func equalMems(a, b impl.Mem) bool {
	return slices.Equal(a.Ram, b.Ram) && slices.Equal(a.Io, b.Io) && equalFlashes(a.Flash, b.Flash)
}

func isZeroMem(m impl.Mem) bool {
	return len(m.Ram) == 0 && len(m.Io) == 0 && isZeroFlash(m.Flash)
}

func copyMem(m impl.Mem) impl.Mem {
	return impl.Mem{Ram: slices.Clone(m.Ram), Io: slices.Clone(m.Io), Flash: copyFlash(m.Flash)}
}

// memOf does not use NewMem.
func memOf(f impl.Flash) impl.Mem {
	return impl.Mem{Ram: make([]int, ramBytes), Io: make([]int, ioRegisters), Flash: copyFlash(f)}
}

// patternMem has no zero work memory or registers; the byte at an offset differs from region to region.
func patternMem(f impl.Flash) impl.Mem {
	m := memOf(f)
	for at := range m.Ram {
		m.Ram[at] = (at*29 + 3) % 256
	}
	for at := range m.Io {
		m.Io[at] = 200 - 3*at
	}
	return m
}

func withRam(m impl.Mem, offset, v int) impl.Mem {
	m = copyMem(m)
	m.Ram[offset] = v
	return m
}

func withIo(m impl.Mem, offset, v int) impl.Mem {
	m = copyMem(m)
	m.Io[offset] = v
	return m
}

func withMemFlash(m impl.Mem, f impl.Flash) impl.Mem {
	m = copyMem(m)
	m.Flash = copyFlash(f)
	return m
}

func withRamBytes(n, v int) impl.Mem {
	m := patternMem(erasedFlash(0))
	m.Ram = slices.Repeat([]int{v}, n)
	return m
}

func withRegisters(n, v int) impl.Mem {
	m := patternMem(erasedFlash(0))
	m.Io = slices.Repeat([]int{v}, n)
	return m
}

// span is a range of addresses of one region, written out from the text of chapter 6.
type span struct{ first, last, region int }

func spans() []span {
	return []span{{0, 255, 1}, {256, 287, 2}, {288, 511, 0}, {512, 767, 3}, {768, 4095, 0}}
}

// placeOf finds the region and offset of an address in spans.
func placeOf(at int) (int, int) {
	for _, s := range spans() {
		if at >= s.first && at <= s.last && s.region != 0 {
			return s.region, at - s.first
		}
	}
	return 0, 0
}

func openAddresses() []int {
	var open []int
	for at := range addressEnd {
		if region, _ := placeOf(at); region == 0 {
			open = append(open, at)
		}
	}
	return open
}

// byteAt is the byte that chapter 6 defines; the flash is read as chapter 4 defines it.
func byteAt(m impl.Mem, at int) int {
	switch region, offset := placeOf(at); region {
	case 1:
		return m.Ram[offset]
	case 2:
		return m.Io[offset]
	case 3:
		if m.Flash.State != 7 {
			return m.Flash.Cells[offset]
		}
		protected := map[bool]int{false: 0, true: 1}[m.Flash.Guard[offset/16]]
		return []int{32, 47, protected, 255}[offset%4]
	}
	return 255
}

func afterPut(m impl.Mem, at, v int) impl.Mem {
	switch region, offset := placeOf(at); region {
	case 1:
		return withRam(m, offset, v)
	case 2:
		if offset != 0 {
			return withIo(m, offset, v)
		}
	case 3:
		return withMemFlash(m, afterCycle(m.Flash, offset, v))
	}
	return copyMem(m)
}

func mustPut(t *testing.T, m impl.Mem, cycles ...busCycle) impl.Mem {
	t.Helper()
	for _, c := range cycles {
		next, code := impl.BusPut(m, c.at, c.v)
		if code != impl.OK || !impl.MemOK(next) {
			t.Fatalf("BusPut of %d at %d: code %d", c.v, c.at, code)
		}
		m = next
	}
	return m
}

// onBus moves cycles of a flash to its addresses.
func onBus(cycles []busCycle) []busCycle {
	var moved []busCycle
	for _, c := range cycles {
		moved = append(moved, busCycle{c.at + 512, c.v})
	}
	return moved
}

func wantGet(t *testing.T, m impl.Mem, at, want int) {
	t.Helper()
	if v, code := impl.BusGet(m, at); v != want || code != impl.OK {
		t.Errorf("BusGet of %d with the flash in state %d = %d, code %d, not %d", at, m.Flash.State, v, code, want)
	}
}

func wantMem(t *testing.T, what string, got, want impl.Mem, code int) {
	t.Helper()
	if code != impl.OK || !slices.Equal(got.Ram, want.Ram) || !slices.Equal(got.Io, want.Io) {
		t.Errorf("%s: code %d; work memory %v, not %v; registers %v, not %v", what, code, got.Ram, want.Ram, got.Io, want.Io)
	}
	wantFlash(t, what, got.Flash, want.Flash, code)
}

type namedMem struct {
	name string
	mem  impl.Mem
}

func validMems() []namedMem {
	all := []namedMem{
		{"zero work memory and registers", memOf(erasedFlash(0))},
		{"all bytes 255", impl.Mem{Ram: slices.Repeat([]int{255}, 256), Io: slices.Repeat([]int{255}, 32), Flash: patternFlash(0, 3)}},
		{"byte 255 at the start", withRam(memOf(erasedFlash(0)), 0, 255)},
		{"byte 255 at the end", withRam(memOf(erasedFlash(0)), 255, 255)},
		{"pad 255", withIo(memOf(erasedFlash(0)), 0, 255)},
		{"pad 33", withIo(patternMem(patternFlash(0)), 0, 33)},
		{"register 31", withIo(memOf(erasedFlash(0)), 31, 255)},
	}
	for _, f := range validFlashes() {
		all = append(all, namedMem{"flash " + f.name, patternMem(f.flash)})
	}
	return all
}

func invalidMems() []namedMem {
	plain := patternMem(patternFlash(0, 3))
	all := []namedMem{
		{"zero", impl.Mem{}},
		{"empty slices", impl.Mem{Ram: []int{}, Io: []int{}, Flash: impl.Flash{Cells: []int{}, Guard: []bool{}}}},
		{"only a flash", impl.Mem{Flash: erasedFlash(0)}},
		{"nil work memory", impl.Mem{Io: plain.Io, Flash: plain.Flash}},
		{"nil registers", impl.Mem{Ram: plain.Ram, Flash: plain.Flash}},
		{"work memory and registers exchanged", impl.Mem{Ram: plain.Io, Io: plain.Ram, Flash: plain.Flash}},
	}
	for _, n := range []int{0, 1, 32, 255, 257, impl.MaxList + 1} {
		all = append(all, namedMem{fmt.Sprint(n, " bytes of work memory"), withRamBytes(n, 7)})
	}
	for _, n := range []int{0, 1, 31, 33, 256, impl.MaxList + 1} {
		all = append(all, namedMem{fmt.Sprint(n, " registers"), withRegisters(n, 7)})
	}
	for _, v := range []int{-1, 256, math.MinInt, math.MaxInt, 1 << 32, 255 - 1<<40} {
		for _, at := range []int{0, 100, 255} {
			all = append(all, namedMem{fmt.Sprint(v, " in the work memory at ", at), withRam(plain, at, v)})
		}
		for _, at := range []int{0, 1, 31} {
			all = append(all, namedMem{fmt.Sprint(v, " in register ", at), withIo(plain, at, v)})
		}
	}
	for _, f := range invalidFlashes() {
		all = append(all, namedMem{"flash " + f.name, withMemFlash(plain, f.flash)})
	}
	return all
}

func allMems() []namedMem {
	return append(validMems(), invalidMems()...)
}

// edgeAddresses are the first and the last address of each range, and their neighbours.
func edgeAddresses() []int {
	var edges []int
	for _, s := range spans() {
		edges = append(edges, s.first, s.first+1, s.last-1, s.last)
	}
	return edges
}

// farAddresses are no addresses; some of them are once they are cut to fewer bits.
func farAddresses() []int {
	return []int{-1, -2, -256, -512, -4095, -4096, 4096, 4097, 4351, 4608, 8191, 8192, 1 << 16, 1<<16 + 512,
		1 << 32, 1<<32 + 10, -1 << 32, math.MinInt, math.MinInt + 1, math.MaxInt - 1, math.MaxInt}
}
