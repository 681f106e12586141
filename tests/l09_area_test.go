package tests

import (
	"fmt"
	"testing"

	"loop.example/g00563/impl"
)

func TestDmaMoveFromAndToEveryAddress(t *testing.T) {
	for state := range flashStates {
		m := patternMem(patternFlash(state, 0, 5, 15))
		for at := range addressEnd {
			up := at % 2
			wantMoved(t, fmt.Sprint("from ", at, " in state ", state), m, oneChannel(2, at, 40, 9, up), 2)
			wantMoved(t, fmt.Sprint("to ", at, " in state ", state), m, oneChannel(2, 40, at, 9, up), 2)
			wantMoved(t, fmt.Sprint(at, " onto itself in state ", state), m, oneChannel(2, at, at, 9, up), 2)
		}
	}
}

func TestDmaMoveBetweenAllAreas(t *testing.T) {
	areas := append(edgeAddresses(), 10, 257, 300, 554, 597, 600, 612, 4000)
	for _, state := range []int{impl.StRead, impl.StProgram, impl.StAuto} {
		m := patternMem(patternFlash(state, 6))
		for _, src := range areas {
			for _, dst := range areas {
				what := fmt.Sprint("from ", src, " to ", dst, " in state ", state)
				wantMoves(t, what, m, oneChannel(0, src, dst, 3, 1), 0, 3)
				wantMoves(t, what, m, oneChannel(0, src, dst, 3, 0), 0, 3)
			}
		}
	}
}

func TestDmaMoveOfEveryByte(t *testing.T) {
	m := patternMem(patternFlash(impl.StRead))
	for v := range 256 {
		for _, dst := range []int{41, 256, 257, 300, 554, 597} {
			wantMoved(t, fmt.Sprint(v, " to ", dst), withRam(m, 40, v), oneChannel(0, 40, dst, 2, 1), 0)
		}
	}
}

// The pad is read like every register, but not written; its byte counts as moved.
func TestDmaMoveOfThePad(t *testing.T) {
	m := withIo(patternMem(patternFlash(impl.StRead)), 0, 33)
	from, list := wantMoves(t, "from the pad", m, oneChannel(0, 256, 9, 3, 0), 0, 3)
	wantMem(t, "from the pad", from, withRam(m, 9, 33), impl.OK)
	wantDma(t, "from the pad", list, oneChannel(0, 256, 9, 0, 0), impl.OK)
	to, list := wantMoves(t, "across the pad", m, oneChannel(0, 20, 255, 3, 1), 0, 3)
	wantMem(t, "across the pad", to, withIo(withRam(m, 255, m.Ram[20]), 1, m.Ram[22]), impl.OK)
	wantDma(t, "across the pad", list, oneChannel(0, 23, 258, 0, 1), impl.OK)
}

func TestDmaMoveOfOpenAddresses(t *testing.T) {
	m := patternMem(patternFlash(impl.StRead))
	for _, at := range []int{288, 300, 511, 768, 4095} {
		from, _ := wantMoves(t, "from an open address", m, oneChannel(0, at, 9, 1, 0), 0, 1)
		wantMem(t, "from an open address", from, withRam(m, 9, 255), impl.OK)
		to, list := wantMoves(t, "to an open address", m, oneChannel(0, 9, at, 2, 0), 0, 2)
		wantMem(t, "to an open address", to, m, impl.OK)
		wantDma(t, "to an open address", list, oneChannel(0, 9, at, 0, 0), impl.OK)
	}
}

// A byte that is moved onto itself in the flash is a write cycle too.
func TestDmaMoveOntoTheSameOffsetOfTheFlash(t *testing.T) {
	m := patternMem(withCell(patternFlash(impl.StRead), 85, 170))
	got, _ := wantMoves(t, "170 onto itself", m, oneChannel(1, 597, 597, 1, 1), 1, 1)
	wantMem(t, "170 onto itself", got, withMemFlash(m, withState(m.Flash, impl.StUnlock)), impl.OK)
	m = patternMem(patternFlash(impl.StAuto))
	got, _ = wantMoves(t, "what identifies the maker onto itself", m, oneChannel(1, 612, 612, 1, 1), 1, 1)
	wantMem(t, "what identifies the maker onto itself", got, m, impl.OK)
}

func TestDmaMovePerformsWriteCycles(t *testing.T) {
	f := patternFlash(impl.StRead, 2)
	for _, x := range flashCommands(f) {
		m := memOf(f)
		wantMem(t, x.name, moveCycles(t, m, x.cycles), withMemFlash(m, x.want), impl.OK)
	}
}

// Four channels, one for each cycle, program a byte, and then the next one; nothing has to be set in between.
func TestDmaMoveOfFourChannelsProgramsAByte(t *testing.T) {
	m := placed(memOf(erasedFlash(impl.StRead)), 10, 170, 85, 160, 90, 7)
	list := []impl.Channel{
		{Src: 10, Dst: 597, Left: 2},
		{Src: 11, Dst: 554, Left: 2},
		{Src: 12, Dst: 597, Left: 2},
		{Src: 13, Dst: 612, Left: 2, Up: 1},
	}
	first := withCell(erasedFlash(impl.StRead), 100, 90)
	for _, want := range []impl.Flash{first, withCell(first, 101, 7)} {
		for i := range dmaChannels {
			m, list, _ = wantMoved(t, "four channels", m, list, i)
		}
		wantFlash(t, "four channels", m.Flash, want, impl.OK)
	}
}

func TestDmaMoveFromAFlashThatIdentifiesItself(t *testing.T) {
	m := memOf(patternFlash(impl.StAuto, 6))
	got, _ := wantMoves(t, "StAuto", m, oneChannel(0, 609, 20, 8, 1), 0, 8)
	wantMem(t, "StAuto", got, placed(m, 20, 47, 1, 255, 32, 47, 1, 255, 32), impl.OK)
}

// Bytes that are moved to a flash that reads are no commands, and the flash stays.
func TestDmaMoveToAFlashThatReads(t *testing.T) {
	m := patternMem(patternFlash(impl.StRead))
	for _, dst := range []int{505, 512, 590, 760} {
		got, _ := wantMoves(t, "StRead", m, oneChannel(0, 0, dst, 16, 1), 0, 16)
		wantMem(t, "StRead", got, m, impl.OK)
	}
}
