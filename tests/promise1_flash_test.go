package tests

import (
	"slices"
	"testing"

	"loop.example/g00563/impl"
)

func markedFlags() []bool {
	return []bool{true, false, true, true, false}
}

func spareFlags(list []bool) []bool {
	return slices.Concat(list, markedFlags())[:len(list)]
}

func flagsStay(list, want []bool) bool {
	return slices.Equal(list, want) && slices.Equal(list[len(list):len(list)+5], markedFlags())
}

func scribbleFlags(list []bool) {
	list = list[:cap(list)]
	for i := range list {
		list[i] = !list[i]
	}
}

// spareFlash puts marked elements behind the end of both slices, where a careless append would write.
func spareFlash(f impl.Flash) impl.Flash {
	return impl.Flash{Cells: spareNumbers(f.Cells), Guard: spareFlags(f.Guard), State: f.State}
}

func flashStays(f, want impl.Flash) bool {
	return numbersStay(f.Cells, want.Cells) && flagsStay(f.Guard, want.Guard) && f.State == want.State
}

func scribbleFlash(f impl.Flash) {
	scribbleNumbers(f.Cells)
	scribbleFlags(f.Guard)
}

func everyFlashCall() []flashCall {
	return append(flashCallsInRange(), flashCallsOutOfRange()[:40]...)
}

func TestPromise1FlashArgumentsStay(t *testing.T) {
	for _, x := range allFlashes() {
		for _, c := range everyFlashCall() {
			f := spareFlash(x.flash)
			c.call(f)
			if !flashStays(f, x.flash) {
				t.Error("argument changed by", c.name, "of", x.name)
			}
		}
		a, b := spareFlash(x.flash), spareFlash(x.flash)
		impl.FlashOK(a)
		impl.SameFlash(a, b)
		impl.BusRead(a, 100)
		impl.BusRead(a, 256)
		if !flashStays(a, x.flash) || !flashStays(b, x.flash) {
			t.Error("argument changed by FlashOK, SameFlash or BusRead of", x.name)
		}
	}
}

func TestPromise1FlashResultsAreNewMemory(t *testing.T) {
	for _, x := range allFlashes() {
		for _, c := range everyFlashCall() {
			f := spareFlash(x.flash)
			got, _ := c.call(f)
			scribbleFlash(got)
			if !flashStays(f, x.flash) {
				t.Error("the result shares memory with the argument:", c.name, "of", x.name)
			}
			got, _ = c.call(f)
			want := copyFlash(got)
			scribbleFlash(f)
			if !equalFlashes(got, want) {
				t.Error("the argument shares memory with the result:", c.name, "of", x.name)
			}
		}
	}
	scribbleFlash(impl.NewFlash())
	if f := impl.NewFlash(); !equalFlashes(f, erasedFlash(0)) {
		t.Error("NewFlash returns memory that it returned before")
	}
}

func TestPromise1FlashEqualCallsEqualResults(t *testing.T) {
	for _, x := range allFlashes() {
		for _, c := range everyFlashCall() {
			first, code := c.call(x.flash)
			for _, other := range flashCallsInRange()[:20] {
				other.call(patternFlash(impl.StErase2))
			}
			again, codeAgain := c.call(spareFlash(x.flash))
			if code != codeAgain || !equalFlashes(first, again) {
				t.Error("the second call differs:", c.name, "of", x.name)
			}
		}
		for _, at := range []int{-1, 0, 2, 100, 255, 256} {
			first, code := impl.BusRead(x.flash, at)
			again, codeAgain := impl.BusRead(spareFlash(x.flash), at)
			if first != again || code != codeAgain {
				t.Error("the second BusRead differs:", x.name, at)
			}
		}
		if impl.FlashOK(x.flash) != impl.FlashOK(spareFlash(x.flash)) {
			t.Error("the second FlashOK differs:", x.name)
		}
	}
}

func TestPromise1FlashEmptyAndNilAreTheSame(t *testing.T) {
	empty := impl.Flash{Cells: []int{}, Guard: []bool{}}
	if !impl.SameFlash(impl.Flash{}, empty) || !impl.SameFlash(empty, impl.Flash{}) {
		t.Error("SameFlash distinguishes nil from an empty slice")
	}
	if impl.FlashOK(impl.Flash{}) || impl.FlashOK(empty) {
		t.Error("FlashOK without bytes and blocks")
	}
	for _, c := range everyFlashCall() {
		a, codeA := c.call(impl.Flash{})
		b, codeB := c.call(empty)
		if codeA != impl.ErrBad || codeB != impl.ErrBad || !isZeroFlash(a) || !isZeroFlash(b) {
			t.Error("nil and empty slices:", c.name, codeA, codeB)
		}
	}
}
