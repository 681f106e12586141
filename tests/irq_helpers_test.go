package tests

import (
	"fmt"
	"slices"
	"testing"

	"loop.example/g00563/impl"
)

const (
	irqLines  = 8
	irqLevels = 8
)

func equalIrqs(a, b impl.Irq) bool {
	return slices.Equal(a.Levels, b.Levels) && slices.Equal(a.Pending, b.Pending)
}

func isZeroIrq(q impl.Irq) bool {
	return len(q.Levels) == 0 && len(q.Pending) == 0
}

func copyIrq(q impl.Irq) impl.Irq {
	return impl.Irq{Levels: slices.Clone(q.Levels), Pending: slices.Clone(q.Pending)}
}

// quietIrq does not use NewIrq.
func quietIrq() impl.Irq {
	return impl.Irq{Levels: make([]int, irqLines), Pending: make([]bool, irqLines)}
}

func irqOf(levels []int, pending ...int) impl.Irq {
	q := quietIrq()
	copy(q.Levels, levels)
	for _, line := range pending {
		q.Pending[line] = true
	}
	return q
}

func withLevel(q impl.Irq, line, level int) impl.Irq {
	q = copyIrq(q)
	q.Levels[line] = level
	return q
}

func withPending(q impl.Irq, line int, pending bool) impl.Irq {
	q = copyIrq(q)
	q.Pending[line] = pending
	return q
}

func sameLevels(level int) []int {
	return slices.Repeat([]int{level}, irqLines)
}

func allLines() []int {
	return []int{0, 1, 2, 3, 4, 5, 6, 7}
}

// subset is the list of the lines whose bits are set.
func subset(bits int) []int {
	var lines []int
	for line := range irqLines {
		if bits>>line&1 == 1 {
			lines = append(lines, line)
		}
	}
	return lines
}

// selected looks from the highest level down, unlike the program.
func selected(q impl.Irq, above int) int {
	for level := 7; level > above; level-- {
		for line := range irqLines {
			if q.Pending[line] && q.Levels[line] == level {
				return line
			}
		}
	}
	return -1
}

func wantIrq(t *testing.T, what string, got, want impl.Irq, code int) {
	t.Helper()
	if code != impl.OK || !equalIrqs(got, want) {
		t.Error(what, "is", got, "code", code, "and not", want)
	}
}

func wantNoIrq(t *testing.T, what string, got impl.Irq, code, want int) {
	t.Helper()
	if code != want || !isZeroIrq(got) {
		t.Error(what, "is", got, "code", code, "and not code", want)
	}
}

func wantNext(t *testing.T, q impl.Irq, above, want int) {
	t.Helper()
	if line, code := impl.NextIrq(q, above); line != want || code != impl.OK {
		t.Error("NextIrq above", above, "of", q, "is", line, "code", code, "and not", want)
	}
}

func wantNoNext(t *testing.T, q impl.Irq, above, want int) {
	t.Helper()
	if line, code := impl.NextIrq(q, above); line != 0 || code != want {
		t.Error("NextIrq above", above, "of", q, "is", line, "code", code, "and not code", want)
	}
}

type namedIrq struct {
	name string
	irq  impl.Irq
}

func validIrqs() []namedIrq {
	up, down := []int{0, 1, 2, 3, 4, 5, 6, 7}, []int{7, 6, 5, 4, 3, 2, 1, 0}
	list := []namedIrq{
		{"quiet", quietIrq()},
		{"levels without a pending line", irqOf(up)},
		{"pending lines of level 0", irqOf(nil, allLines()...)},
		{"increasing levels", irqOf(up, allLines()...)},
		{"decreasing levels", irqOf(down, allLines()...)},
		{"increasing levels, even lines", irqOf(up, 0, 2, 4, 6)},
		{"decreasing levels, odd lines", irqOf(down, 1, 3, 5, 7)},
		{"two lines of level 4", irqOf([]int{0, 4, 0, 4}, 3, 1)},
		{"the highest level everywhere", irqOf(sameLevels(7), allLines()...)},
		{"a high level that is not pending", irqOf([]int{7, 1, 7, 2, 2, 7}, 1, 3, 4)},
	}
	for line := range irqLines {
		list = append(list, namedIrq{fmt.Sprint("line ", line, " alone"), irqOf(sameLevels(3), line)})
	}
	return list
}

// wrongLevels are no levels; some of them would be one if only their last bits counted.
func wrongLevels() []int {
	return append([]int{8, 9, -7, -8, 1<<32 + 7}, farNumbers()...)
}

func wrongLengths() []int {
	return []int{1, 7, 9, 16, impl.MaxList, impl.MaxList + 1}
}

func invalidIrqs() []namedIrq {
	plain := irqOf([]int{0, 1, 2, 3, 4, 5, 6, 7}, 2, 5)
	list := []namedIrq{
		{"zero value", impl.Irq{}},
		{"empty", impl.Irq{Levels: []int{}, Pending: []bool{}}},
		{"nil levels", impl.Irq{Pending: plain.Pending}},
		{"empty levels", impl.Irq{Levels: []int{}, Pending: plain.Pending}},
		{"nil pending", impl.Irq{Levels: plain.Levels}},
		{"empty pending", impl.Irq{Levels: plain.Levels, Pending: []bool{}}},
	}
	for _, n := range wrongLengths() {
		list = append(list,
			namedIrq{fmt.Sprint(n, " levels"), impl.Irq{Levels: make([]int, n), Pending: plain.Pending}},
			namedIrq{fmt.Sprint(n, " pending"), impl.Irq{Levels: plain.Levels, Pending: make([]bool, n)}},
			namedIrq{fmt.Sprint(n, " of both"), impl.Irq{Levels: make([]int, n), Pending: make([]bool, n)}})
	}
	for line := range irqLines {
		for _, level := range wrongLevels() {
			list = append(list, namedIrq{fmt.Sprint("level ", level, " at line ", line), withLevel(plain, line, level)})
		}
	}
	return list
}

func allIrqs() []namedIrq {
	return append(validIrqs(), invalidIrqs()...)
}

// wrongLines are no lines; some are chosen like the levels.
func wrongLines() []int {
	return append([]int{8, 9, 15, 16, -7, -8, -9, 1<<32 + 3}, farNumbers()...)
}
