package tests

import (
	"fmt"
	"testing"

	"loop.example/g00563/impl"
)

func mustLevel(t *testing.T, q impl.Irq, line, level int) impl.Irq {
	t.Helper()
	after, code := impl.SetLevel(q, line, level)
	wantIrq(t, fmt.Sprint("SetLevel of line ", line, " to ", level), after, withLevel(q, line, level), code)
	return after
}

func mustRaise(t *testing.T, q impl.Irq, line int) impl.Irq {
	t.Helper()
	after, code := impl.Raise(q, line)
	wantIrq(t, fmt.Sprint("Raise of line ", line), after, withPending(q, line, true), code)
	return after
}

func mustAck(t *testing.T, q impl.Irq, line int) impl.Irq {
	t.Helper()
	after, code := impl.Ack(q, line)
	wantIrq(t, fmt.Sprint("Ack of line ", line), after, withPending(q, line, false), code)
	return after
}

func TestIrqExamples(t *testing.T) {
	q := impl.NewIrq()
	for _, line := range []int{3, 1} {
		q = mustRaise(t, mustLevel(t, q, line, 4), line)
	}
	wantNext(t, q, 0, 1)
	wantNext(t, q, 4, -1)
	q = mustRaise(t, mustLevel(t, q, 6, 7), 6)
	wantNext(t, q, 0, 6)
	wantNext(t, q, 4, 6)
	got, code := impl.Raise(q, 8)
	wantNoIrq(t, "Raise of line 8", got, code, impl.ErrRange)
	wantNoNext(t, q, 8, impl.ErrLevel)
}

func TestIrqConstant(t *testing.T) {
	if impl.Lines != irqLines {
		t.Error("Lines is", impl.Lines)
	}
}

func TestNewIrq(t *testing.T) {
	q := impl.NewIrq()
	wantIrq(t, "NewIrq", q, quietIrq(), impl.OK)
	if !impl.IrqOK(q) {
		t.Error("NewIrq is not valid")
	}
	for above := range irqLevels {
		wantNext(t, q, above, -1)
	}
}

func TestIrqOK(t *testing.T) {
	for _, x := range validIrqs() {
		if !impl.IrqOK(x.irq) {
			t.Error("not valid:", x.name)
		}
	}
	for line := range irqLines {
		for level := range irqLevels {
			if !impl.IrqOK(withLevel(irqOf(nil, line), line, level)) {
				t.Error("not valid: level", level, "at line", line)
			}
		}
	}
	for _, x := range invalidIrqs() {
		if impl.IrqOK(x.irq) {
			t.Error("valid:", x.name)
		}
	}
}

func TestSetLevelOfEveryLine(t *testing.T) {
	for _, x := range validIrqs() {
		for line := range irqLines {
			for level := range irqLevels {
				mustLevel(t, x.irq, line, level)
			}
		}
	}
}

func TestSetLevelOutOfRange(t *testing.T) {
	for _, x := range validIrqs() {
		for _, line := range wrongLines() {
			for _, level := range append(wrongLevels(), 0, 7) {
				got, code := impl.SetLevel(x.irq, line, level)
				wantNoIrq(t, fmt.Sprint("SetLevel of line ", line, " to ", level, ", ", x.name), got, code, impl.ErrRange)
			}
		}
		for line := range irqLines {
			for _, level := range wrongLevels() {
				got, code := impl.SetLevel(x.irq, line, level)
				wantNoIrq(t, fmt.Sprint("SetLevel of line ", line, " to ", level, ", ", x.name), got, code, impl.ErrLevel)
			}
		}
	}
}

func TestRaiseAndAckOfEveryLine(t *testing.T) {
	for _, x := range validIrqs() {
		for line := range irqLines {
			raised := mustRaise(t, x.irq, line)
			mustRaise(t, raised, line)
			acked := mustAck(t, x.irq, line)
			mustAck(t, acked, line)
			wantIrq(t, "Raise after Ack", mustRaise(t, acked, line), raised, impl.OK)
			wantIrq(t, "Ack after Raise", mustAck(t, raised, line), acked, impl.OK)
		}
	}
}

func TestRaiseAndAckOutOfRange(t *testing.T) {
	for _, x := range validIrqs() {
		for _, line := range wrongLines() {
			got, code := impl.Raise(x.irq, line)
			wantNoIrq(t, fmt.Sprint("Raise of line ", line, ", ", x.name), got, code, impl.ErrRange)
			got, code = impl.Ack(x.irq, line)
			wantNoIrq(t, fmt.Sprint("Ack of line ", line, ", ", x.name), got, code, impl.ErrRange)
		}
	}
}

func TestBadIrqFirst(t *testing.T) {
	for _, x := range invalidIrqs() {
		for _, line := range []int{0, 7, -1, 8} {
			for _, level := range []int{0, 7, -1, 8} {
				got, code := impl.SetLevel(x.irq, line, level)
				wantNoIrq(t, fmt.Sprint("SetLevel of line ", line, " to ", level, ", ", x.name), got, code, impl.ErrBad)
			}
			got, code := impl.Raise(x.irq, line)
			wantNoIrq(t, fmt.Sprint("Raise of line ", line, ", ", x.name), got, code, impl.ErrBad)
			got, code = impl.Ack(x.irq, line)
			wantNoIrq(t, fmt.Sprint("Ack of line ", line, ", ", x.name), got, code, impl.ErrBad)
			wantNoNext(t, x.irq, line, impl.ErrBad)
		}
	}
}

func TestNextIrqWithoutAPendingLine(t *testing.T) {
	for level := range irqLevels {
		for above := range irqLevels {
			wantNext(t, irqOf(sameLevels(level)), above, -1)
		}
	}
}

func TestNextIrqOfOneLine(t *testing.T) {
	for line := range irqLines {
		for level := range irqLevels {
			q := withLevel(irqOf(nil, line), line, level)
			for above := range irqLevels {
				want := -1
				if level > above {
					want = line
				}
				wantNext(t, q, above, want)
				wantNext(t, withLevel(irqOf(sameLevels(7), line), line, level), above, want)
			}
		}
	}
}

func TestNextIrqOfEqualLevels(t *testing.T) {
	for level := range irqLevels {
		for bits := 1; bits < 256; bits++ {
			lines := subset(bits)
			for above := range irqLevels {
				want := -1
				if level > above {
					want = lines[0]
				}
				wantNext(t, irqOf(sameLevels(level), lines...), above, want)
			}
		}
	}
}

// A pair of lines in either order, at levels in either order, above the lower one, the higher one and both.
func TestNextIrqOfTwoLines(t *testing.T) {
	for first := range irqLines {
		for second := first + 1; second < irqLines; second++ {
			for low := 0; low < 7; low++ {
				high := low + 1
				up := withLevel(withLevel(irqOf(nil, first, second), first, low), second, high)
				down := withLevel(withLevel(irqOf(nil, first, second), first, high), second, low)
				for above := range high {
					wantNext(t, up, above, second)
					wantNext(t, down, above, first)
				}
				wantNext(t, up, high, -1)
				wantNext(t, down, high, -1)
			}
		}
	}
}

func TestNextIrqOfManyLines(t *testing.T) {
	up, down := []int{0, 1, 2, 3, 4, 5, 6, 7}, []int{7, 6, 5, 4, 3, 2, 1, 0}
	peaks := []int{1, 6, 2, 6, 0, 6, 3, 5}
	for above := range 7 {
		wantNext(t, irqOf(up, allLines()...), above, 7)
		wantNext(t, irqOf(down, allLines()...), above, 0)
	}
	for above := range 6 {
		wantNext(t, irqOf(peaks, allLines()...), above, 1)
		wantNext(t, irqOf(peaks, 0, 3, 5, 7), above, 3)
	}
	for _, levels := range [][]int{up, down} {
		wantNext(t, irqOf(levels, allLines()...), 7, -1)
	}
	wantNext(t, irqOf(peaks, allLines()...), 6, -1)
	wantNext(t, irqOf(peaks, 0, 2, 4, 6, 7), 4, 7)
	wantNext(t, irqOf(peaks, 0, 2, 4, 6, 7), 5, -1)
}

func TestNextIrqAboveAnotherLevel(t *testing.T) {
	for _, x := range validIrqs() {
		for _, above := range wrongLevels() {
			wantNoNext(t, x.irq, above, impl.ErrLevel)
		}
	}
}
