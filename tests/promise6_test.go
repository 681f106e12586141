package tests

import (
	"testing"

	"loop.example/g00563/impl"
)

func writableAddresses() []int {
	var list []int
	for at := range ramBytes {
		list = append(list, at)
	}
	for register := 1; register < ioRegisters; register++ {
		list = append(list, 256+register)
	}
	return list
}

// contents reads the whole bus.
func contents(t *testing.T, m impl.Mem) []int {
	t.Helper()
	all := make([]int, addressEnd)
	for at := range all {
		v, code := impl.BusGet(m, at)
		if code != impl.OK {
			t.Fatal("BusGet of", at, "code", code)
		}
		all[at] = v
	}
	return all
}

func TestPromise6WrittenIsReadBack(t *testing.T) {
	for _, m := range []impl.Mem{memOf(erasedFlash(0)), patternMem(patternFlash(7, 1))} {
		for _, at := range writableAddresses() {
			for v := range 256 {
				wantGet(t, mustPut(t, m, busCycle{at, v}), at, v)
			}
		}
	}
}

func TestPromise6NothingElseChanges(t *testing.T) {
	for state := range flashStates {
		m := patternMem(patternFlash(state, 1))
		was := contents(t, m)
		for _, at := range []int{0, 1, 31, 32, 85, 128, 254, 255, 257, 258, 271, 286, 287} {
			v := 255 - was[at]
			for other, got := range contents(t, mustPut(t, m, busCycle{at, v})) {
				if other == at && got != v || other != at && got != was[other] {
					t.Error("address", other, "becomes", got, "after", v, "at", at)
				}
			}
		}
	}
}

func TestPromise6AllAtOnce(t *testing.T) {
	n := &noise{state: 12}
	want := patternMem(patternFlash(impl.StRead, 4))
	m := want
	for range 20 {
		written := map[int]int{}
		for _, at := range writableAddresses() {
			written[at] = n.below(256)
			m = mustPut(t, m, busCycle{at, written[at]})
		}
		for _, at := range writableAddresses() {
			wantGet(t, m, at, written[at])
		}
		wantGet(t, m, 256, want.Io[0])
		wantFlash(t, "the flash", m.Flash, want.Flash, impl.OK)
	}
}

func TestPromise6OpenAddressesAreNotWritten(t *testing.T) {
	for state := range flashStates {
		m := patternMem(patternFlash(state, 1))
		for _, at := range openAddresses() {
			after := mustPut(t, m, busCycle{at, (at + state) % 256})
			if !equalMems(after, m) {
				wantMem(t, "an open address", after, m, impl.OK)
				t.Fatal("address", at)
			}
			wantGet(t, after, at, 255)
		}
	}
}

func TestPromise6ThePadIsNotWritten(t *testing.T) {
	for pad := range 256 {
		m := withIo(patternMem(patternFlash(impl.StRead)), 0, pad)
		for _, v := range []int{0, 1, pad, 255 - pad, 255} {
			after := mustPut(t, m, busCycle{256, v})
			wantMem(t, "the register of the pad", after, m, impl.OK)
			wantGet(t, after, 256, pad)
		}
	}
}

// put prefers the parts of the bus that are connected, and the cycles that the flash knows.
func (n *noise) put() busCycle {
	switch n.below(6) {
	case 0, 1:
		return busCycle{n.below(ramBytes), n.below(256)}
	case 2:
		return busCycle{256 + n.below(ioRegisters), n.below(256)}
	case 3, 4:
		return onBus([]busCycle{n.cycle()})[0]
	}
	return busCycle{n.below(addressEnd), n.below(256)}
}

func TestPromise6WholeHistories(t *testing.T) {
	n := &noise{state: 13}
	for range 40 {
		m := patternMem(n.flash())
		want := copyMem(m)
		for range 100 {
			cycles := []busCycle{n.put()}
			if n.below(4) == 0 {
				cycles = append(cycles, onBus(n.command())...)
			}
			for _, c := range cycles {
				before := copyMem(m)
				m, want = mustPut(t, m, c), afterPut(want, c.at, c.v)
				if !equalMems(m, want) {
					wantMem(t, "a history", m, want, impl.OK)
					t.FailNow()
				}
				checkPromise4(t, before.Flash, m.Flash)
				at := n.below(addressEnd)
				wantGet(t, m, at, byteAt(want, at))
			}
		}
	}
}
