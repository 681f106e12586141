package tests

import (
	"testing"

	"loop.example/g00563/impl"
)

// blockKept reports whether bits of a block are only cleared, or all its bytes are 255.
func blockKept(before, after []int) bool {
	erased, cleared := true, true
	for i := range after {
		erased = erased && after[i] == 255
		cleared = cleared && after[i]&^before[i] == 0
	}
	return erased || cleared
}

func sameBytes(before, after []int) bool {
	for i := range before {
		if before[i] != after[i] {
			return false
		}
	}
	return true
}

func checkPromise4(t *testing.T, before, after impl.Flash) {
	t.Helper()
	if !impl.FlashOK(after) {
		t.Fatal("a write cycle leaves an invalid flash")
	}
	for block := range 16 {
		was, is := before.Cells[16*block:16*block+16], after.Cells[16*block:16*block+16]
		if before.Guard[block] && (!after.Guard[block] || !sameBytes(was, is)) {
			t.Fatal("protected block", block, "becomes", is, after.Guard[block])
		}
		if !blockKept(was, is) {
			t.Fatal("block", block, "becomes", is, "from", was)
		}
	}
}

// cycle prefers the offsets and bytes that the decoder knows, so that the commands are reached.
func (n *noise) cycle() busCycle {
	places := []int{85, 42, 85, 42, n.below(256), n.below(256)}
	bytes := []int{170, 85, 160, 128, 144, 154, 48, 16, 240, n.below(256)}
	return busCycle{places[n.below(len(places))], bytes[n.below(len(bytes))]}
}

func (n *noise) flash() impl.Flash {
	f := erasedFlash(n.below(flashStates))
	for at := range f.Cells {
		f.Cells[at] = []int{0, 255, n.below(256), n.below(256)}[n.below(4)]
	}
	for block := range f.Guard {
		f.Guard[block] = n.below(3) == 0
	}
	return f
}

func TestPromise4EveryState(t *testing.T) {
	for state := range flashStates {
		f := patternFlash(state, 0, 5, 9, 15)
		for at := range 256 {
			for _, v := range []int{0, 1, 16, 48, 85, 128, 144, 154, 160, 170, 240, 255} {
				after, code := impl.BusWrite(f, at, v)
				if code != impl.OK {
					t.Fatal("BusWrite of", v, "at", at, "code", code)
				}
				checkPromise4(t, f, after)
			}
		}
	}
}

func TestPromise4AnyFlash(t *testing.T) {
	n := &noise{state: 4}
	for range 5000 {
		f, c := n.flash(), n.cycle()
		after := mustCycles(t, f, c)
		checkPromise4(t, f, after)
		if want := afterCycle(f, c.at, c.v); !equalFlashes(after, want) {
			wantFlash(t, "a cycle", after, want, impl.OK)
			t.FailNow()
		}
	}
}

func (n *noise) command() []busCycle {
	at, v := n.below(256), n.below(256)
	switch n.below(6) {
	case 0, 1:
		return programCycles(at, v)
	case 2:
		return eraseCycles(at, 48)
	case 3:
		return eraseCycles(85, 16)
	case 4:
		return guardCycles(at, v)
	}
	return []busCycle{n.cycle()}
}

func TestPromise4WholeHistories(t *testing.T) {
	n := &noise{state: 5}
	for range 100 {
		f := n.flash()
		first := copyFlash(f)
		for range 60 {
			for _, c := range n.command() {
				after := mustCycles(t, f, c)
				checkPromise4(t, f, after)
				f = after
			}
			for block := range 16 {
				if first.Guard[block] && (!f.Guard[block] || !sameBytes(first.Cells[16*block:16*block+16], f.Cells[16*block:])) {
					t.Fatal("block", block, "was protected from the start and has changed")
				}
			}
		}
	}
}

func TestPromise4DirectCalls(t *testing.T) {
	n := &noise{state: 6}
	for range 1000 {
		f := n.flash()
		programmed, _ := impl.ProgramCell(f, n.below(256), n.below(256))
		erased, _ := impl.EraseBlock(f, n.below(16))
		protected, _ := impl.GuardBlock(f, n.below(16))
		for _, after := range []impl.Flash{programmed, erased, protected} {
			checkPromise4(t, f, after)
			if after.State != f.State {
				t.Fatal("the state becomes", after.State)
			}
		}
	}
}
