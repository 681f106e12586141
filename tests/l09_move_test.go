package tests

import (
	"fmt"
	"slices"
	"testing"

	"loop.example/g00563/impl"
)

func TestDmaMoveOfEveryChannel(t *testing.T) {
	m := patternMem(patternFlash(impl.StRead, 2))
	for i := range dmaChannels {
		for _, up := range []int{0, 1} {
			for left := range 256 {
				c := impl.Channel{Src: 20, Dst: 120, Left: left, Up: up}
				wantMoved(t, fmt.Sprint("channel ", c), m, withChannel(patternDma(), i, c), i)
			}
		}
	}
}

func TestDmaMoveOfValidListsAndMemories(t *testing.T) {
	for _, x := range validDmas() {
		for i := range dmaChannels {
			wantMoved(t, x.name, patternMem(patternFlash(impl.StRead, 2)), x.list, i)
		}
	}
	for _, y := range validMems() {
		for i := range dmaChannels {
			wantMoved(t, y.name, y.mem, patternDma(), i)
		}
	}
}

// The last byte is moved like the others, and it alone is reported.
func TestDmaMoveOfTheLastByte(t *testing.T) {
	for i := range dmaChannels {
		for _, up := range []int{0, 1} {
			for _, x := range []struct {
				left int
				last bool
			}{{1, true}, {2, false}, {3, false}, {254, false}, {255, false}} {
				m, list, last, code := impl.DmaMove(withRam(memOf(erasedFlash(0)), 20, 99), oneChannel(i, 20, 120, x.left, up), i)
				what := fmt.Sprint("channel ", i, ", Left ", x.left, ", Up ", up)
				wantMem(t, what, m, withRam(withRam(memOf(erasedFlash(0)), 20, 99), 120, 99), code)
				wantDma(t, what, list, oneChannel(i, 20+up, 120+up, x.left-1, up), code)
				if last != x.last {
					t.Error(what, "returns", last)
				}
			}
		}
	}
}

// A byte that were moved would change the memory, the state of the flash or the channel.
func TestDmaMoveWithoutBytes(t *testing.T) {
	for state := range flashStates {
		m := patternMem(patternFlash(state, 2))
		for i := range dmaChannels {
			for _, up := range []int{0, 1} {
				for _, dst := range []int{0, 120, 257, 597, 600, 700, 4095} {
					list := withChannel(patternDma(), i, impl.Channel{Src: 20, Dst: dst, Up: up})
					x, next, last, code := impl.DmaMove(m, list, i)
					wantMem(t, "Left 0", x, m, code)
					wantDma(t, "Left 0", next, list, code)
					if last {
						t.Error("Left 0 of channel", i, "returns true:", list)
					}
				}
			}
		}
	}
}

func TestDmaMoveAtTheEndOfTheAddresses(t *testing.T) {
	for _, x := range []struct{ src, dst, up, nextSrc, nextDst int }{
		{4095, 40, 1, 0, 41},
		{4095, 40, 0, 4095, 40},
		{40, 4095, 1, 41, 0},
		{40, 4095, 0, 40, 4095},
		{4095, 4095, 1, 0, 0},
		{4095, 4095, 0, 4095, 4095},
		{4094, 4094, 1, 4095, 4095},
		{0, 0, 1, 1, 1},
		{0, 0, 0, 0, 0},
		{255, 511, 1, 256, 512},
	} {
		for _, left := range []int{1, 2, 255} {
			m := patternMem(patternFlash(impl.StRead))
			_, list, last, code := impl.DmaMove(m, oneChannel(1, x.src, x.dst, left, x.up), 1)
			what := fmt.Sprint("Src ", x.src, ", Dst ", x.dst, ", Up ", x.up)
			wantDma(t, what, list, oneChannel(1, x.nextSrc, x.nextDst, left-1, x.up), code)
			if last != (left == 1) {
				t.Error(what, "returns", last, "with Left", left)
			}
		}
	}
}

// From 4094 on the bytes are open, open, and those of the work memory.
func TestDmaMoveContinuesAtTheBeginning(t *testing.T) {
	m := patternMem(patternFlash(impl.StRead))
	from, list := wantMoves(t, "from 4094", m, oneChannel(3, 4094, 100, 4, 1), 3, 4)
	wantDma(t, "from 4094", list, oneChannel(3, 2, 104, 0, 1), impl.OK)
	if !slices.Equal(from.Ram[99:105], []int{m.Ram[99], 255, 255, m.Ram[0], m.Ram[1], m.Ram[104]}) {
		t.Error("from 4094:", from.Ram[99:105])
	}
	to, list := wantMoves(t, "to 4094", m, oneChannel(3, 100, 4094, 4, 1), 3, 4)
	wantDma(t, "to 4094", list, oneChannel(3, 104, 2, 0, 1), impl.OK)
	wantMem(t, "to 4094", to, withRam(withRam(m, 0, m.Ram[102]), 1, m.Ram[103]), impl.OK)
}

// One byte is moved after the other: what a move writes is what a later one reads.
func TestDmaMoveOfOverlappingBytes(t *testing.T) {
	for _, x := range []struct {
		src, dst, left int
		want           []int
	}{
		{100, 101, 5, []int{50, 50, 50, 50, 50, 50}},
		{100, 102, 4, []int{50, 51, 50, 51, 50, 51}},
		{101, 100, 3, []int{51, 52, 53, 53, 54, 55}},
		{102, 100, 4, []int{52, 53, 54, 55, 54, 55}},
		{100, 100, 6, []int{50, 51, 52, 53, 54, 55}},
	} {
		what := fmt.Sprint(x.left, " bytes from ", x.src, " to ", x.dst)
		m := placed(memOf(erasedFlash(impl.StRead)), 100, 50, 51, 52, 53, 54, 55)
		got, list := wantMoves(t, what, m, oneChannel(0, x.src, x.dst, x.left, 1), 0, x.left)
		wantMem(t, what, got, placed(m, 100, x.want...), impl.OK)
		wantDma(t, what, list, oneChannel(0, x.src+x.left, x.dst+x.left, 0, 1), impl.OK)
	}
}

// A channel that stays moves the same address again, with the byte that is there by then.
func TestDmaMoveOfOneAddressAgain(t *testing.T) {
	m := placed(memOf(erasedFlash(impl.StRead)), 100, 50, 51, 52)
	list := withChannel(oneChannel(0, 100, 120, 9, 0), 1, impl.Channel{Src: 101, Dst: 100, Left: 2, Up: 1})
	for _, x := range []struct{ i, at, want int }{{0, 120, 50}, {0, 120, 50}, {1, 100, 51}, {0, 120, 51}, {1, 101, 52}, {0, 120, 51}} {
		m, list, _ = wantMoved(t, "channels in turn", m, list, x.i)
		wantGet(t, m, x.at, x.want)
	}
	wantDma(t, "channels in turn", list, withChannel(oneChannel(0, 100, 120, 5, 0), 1, impl.Channel{Src: 103, Dst: 102, Up: 1}), impl.OK)
}
