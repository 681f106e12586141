package tests

import (
	"fmt"
	"testing"

	"loop.example/g00563/impl"
)

func TestBusExamples(t *testing.T) {
	m, code := impl.NewMem(nil)
	wantMem(t, "NewMem of no program", m, memOf(erasedFlash(0)), code)
	wantMem(t, "9 at 256", mustPut(t, m, busCycle{256, 9}), m, impl.OK)
	wantGet(t, mustPut(t, m, busCycle{256, 9}), 256, 0)
	wantMem(t, "3 at 515", mustPut(t, m, busCycle{515, 3}), m, impl.OK)
	m = mustPut(t, m, busCycle{597, 170}, busCycle{554, 85}, busCycle{597, 160}, busCycle{515, 3})
	wantMem(t, "3 at 515 programmed", m, memOf(withCell(erasedFlash(0), 3, 3)), impl.OK)
	wantGet(t, m, 515, 3)
}

func TestBusGetEveryAddress(t *testing.T) {
	for state := range flashStates {
		m := patternMem(patternFlash(state, 0, 5, 15))
		for at := range addressEnd {
			wantGet(t, m, at, byteAt(m, at))
		}
	}
}

func TestBusGetReadsTheFlashAsBusRead(t *testing.T) {
	for _, x := range validFlashes() {
		m := patternMem(x.flash)
		for offset := range flashBytes {
			want, _ := impl.BusRead(x.flash, offset)
			wantGet(t, m, 512+offset, want)
		}
	}
}

func TestBusGetOpen(t *testing.T) {
	for _, m := range []impl.Mem{memOf(erasedFlash(0)), withRam(memOf(erasedFlash(7)), 0, 1), withIo(patternMem(patternFlash(0)), 0, 3)} {
		for _, at := range openAddresses() {
			wantGet(t, m, at, 255)
		}
	}
}

func TestBusGetEveryByte(t *testing.T) {
	for v := range 256 {
		wantGet(t, withRam(memOf(erasedFlash(0)), v, v), v, v)
		wantGet(t, withIo(memOf(erasedFlash(0)), v%32, v), 256+v%32, v)
		wantGet(t, memOf(withCell(erasedFlash(0), v, v)), 512+v, v)
	}
}

func TestBusGetCodes(t *testing.T) {
	for _, x := range validMems() {
		for _, at := range farAddresses() {
			if v, code := impl.BusGet(x.mem, at); v != 0 || code != impl.ErrRange {
				t.Error("BusGet of", at, "in", x.name, "is", v, "code", code)
			}
		}
	}
	for _, x := range invalidMems() {
		for _, at := range append(farAddresses(), edgeAddresses()...) {
			if v, code := impl.BusGet(x.mem, at); v != 0 || code != impl.ErrBad {
				t.Error("BusGet of", at, "in", x.name, "is", v, "code", code)
			}
		}
	}
}

func TestBusPutEveryAddress(t *testing.T) {
	for state := range flashStates {
		m := patternMem(patternFlash(state, 0, 5, 15))
		for at := range addressEnd {
			for _, v := range []int{0, 170, 255} {
				got, code := impl.BusPut(m, at, v)
				if want := afterPut(m, at, v); code != impl.OK || !equalMems(got, want) {
					wantMem(t, fmt.Sprint(v, " at ", at, " in state ", state), got, want, code)
				}
			}
		}
	}
}

func TestBusPutEveryByte(t *testing.T) {
	m := patternMem(patternFlash(impl.StRead, 2))
	for _, at := range append(edgeAddresses(), 10, 554, 597) {
		for v := range 256 {
			got, code := impl.BusPut(m, at, v)
			wantMem(t, fmt.Sprint(v, " at ", at), got, afterPut(m, at, v), code)
		}
	}
}

func TestBusPutLeavesThePad(t *testing.T) {
	for _, pad := range []int{0, 1, 33, 255} {
		m := withIo(patternMem(patternFlash(impl.StRead)), 0, pad)
		for v := range 256 {
			wantMem(t, fmt.Sprint("pad ", pad, " after ", v), mustPut(t, m, busCycle{256, v}), m, impl.OK)
		}
	}
}

func TestBusPutWritesTheFlashAsBusWrite(t *testing.T) {
	for state := range flashStates {
		m := patternMem(patternFlash(state, 0, 2, 5, 15))
		for _, offset := range []int{0, 15, 16, 41, 42, 43, 84, 85, 86, 170, 240, 255} {
			for v := range 256 {
				f, code := impl.BusWrite(m.Flash, offset, v)
				got, codePut := impl.BusPut(m, 512+offset, v)
				if want := withMemFlash(m, f); code != codePut || !equalMems(got, want) {
					wantMem(t, fmt.Sprint(v, " at ", offset, " in state ", state), got, want, codePut)
				}
			}
		}
	}
}

func TestBusPutCommands(t *testing.T) {
	m := patternMem(patternFlash(impl.StRead, 2))
	for _, x := range flashCommands(m.Flash) {
		got := mustPut(t, m, onBus(x.cycles)...)
		wantMem(t, x.name, got, withMemFlash(m, x.want), impl.OK)
		for _, at := range []int{512, 515, 612, 767} {
			wantGet(t, got, at, byteAt(got, at))
		}
	}
}

// What happens elsewhere on the bus does not interrupt a command of the flash.
func TestBusPutBetweenTheCyclesOfACommand(t *testing.T) {
	for _, cycles := range [][]busCycle{programCycles(100, 90), eraseCycles(97, 48), eraseCycles(85, 16), guardCycles(113, 0)} {
		m := patternMem(patternFlash(impl.StRead, 2))
		want := mustPut(t, m, onBus(cycles)...)
		for _, c := range onBus(cycles) {
			m = mustPut(t, m, busCycle{85, 170}, busCycle{300, 1}, busCycle{256, 9}, busCycle{270, 5}, busCycle{768, 240}, c)
		}
		wantMem(t, fmt.Sprint(cycles), m, withIo(withRam(want, 85, 170), 14, 5), impl.OK)
	}
}

// Cycles at other addresses that have the offsets of a command are no command.
func TestBusPutCommandsElsewhere(t *testing.T) {
	for _, base := range []int{0, 256, 288, 768, 1024, 1536, 3840} {
		m := patternMem(patternFlash(impl.StRead))
		for _, c := range programCycles(100, 0) {
			m = mustPut(t, m, busCycle{base + c.at, c.v})
		}
		wantFlash(t, fmt.Sprint("a command at ", base), m.Flash, patternFlash(impl.StRead), impl.OK)
	}
}

func wantPutCode(t *testing.T, x namedMem, at, v, want int) {
	t.Helper()
	m, code := impl.BusPut(x.mem, at, v)
	wantNoMem(t, fmt.Sprint("BusPut of ", v, " at ", at, " in ", x.name), m, code, want)
}

func TestBusPutRange(t *testing.T) {
	for _, x := range validMems() {
		for _, at := range farAddresses() {
			for _, v := range []int{0, 255, -1, 256} {
				wantPutCode(t, x, at, v, impl.ErrRange)
			}
		}
		for _, at := range append(edgeAddresses(), 10, 300, 554, 597) {
			for _, v := range farNumbers() {
				wantPutCode(t, x, at, v, impl.ErrRange)
			}
		}
	}
}

func TestBusPutInvalidMemories(t *testing.T) {
	for _, x := range invalidMems() {
		for _, at := range append(edgeAddresses(), farAddresses()...) {
			for _, v := range []int{0, 255, -1, 256} {
				wantPutCode(t, x, at, v, impl.ErrBad)
			}
		}
	}
}
