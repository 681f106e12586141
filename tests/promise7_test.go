package tests

import (
	"testing"

	"loop.example/g00563/impl"
)

// checkPromise7 looks at every line, whether one is selected or not.
func checkPromise7(t *testing.T, q impl.Irq, above int) {
	t.Helper()
	next, code := impl.NextIrq(q, above)
	if code != impl.OK || next < -1 || next >= irqLines {
		t.Fatal("NextIrq above", above, "of", q, "is", next, "code", code)
	}
	limit := above
	if next >= 0 {
		limit = q.Levels[next]
		if !q.Pending[next] || limit <= above {
			t.Error("line", next, "is selected above", above, "of", q)
		}
	}
	for line := range irqLines {
		higher := q.Levels[line] > limit || next >= 0 && line < next && q.Levels[line] == limit
		if q.Pending[line] && higher {
			t.Error("line", line, "precedes", next, "above", above, "of", q)
		}
	}
}

func everyAbove(t *testing.T, q impl.Irq) {
	t.Helper()
	for above := range irqLevels {
		checkPromise7(t, q, above)
		wantNext(t, q, above, selected(q, above))
	}
}

func (n *noise) irq(levels int) impl.Irq {
	q := irqOf(nil, subset(n.below(256))...)
	for line := range q.Levels {
		q.Levels[line] = n.below(levels)
	}
	return q
}

func TestPromise7OfValidControllers(t *testing.T) {
	for _, x := range validIrqs() {
		everyAbove(t, x.irq)
	}
}

func TestPromise7OfEverySubset(t *testing.T) {
	tables := [][]int{nil, {0, 1, 2, 3, 4, 5, 6, 7}, {7, 6, 5, 4, 3, 2, 1, 0}, {3, 5, 3, 5, 1, 7, 1, 7}, {6, 1, 6, 1, 6, 0, 0, 6}, sameLevels(1), sameLevels(7)}
	for _, levels := range tables {
		for bits := range 256 {
			everyAbove(t, irqOf(levels, subset(bits)...))
		}
	}
}

// Few different levels make equal ones frequent.
func TestPromise7OfNoise(t *testing.T) {
	n := &noise{state: 14}
	for levels := 1; levels <= irqLevels; levels++ {
		for range 300 {
			everyAbove(t, n.irq(levels))
		}
	}
}

func TestPromise7AcknowledgedIsNotSelectedAgain(t *testing.T) {
	n := &noise{state: 15}
	for range 300 {
		start := n.irq(irqLevels)
		for above := range irqLevels {
			drain(t, start, above)
		}
	}
	drain(t, irqOf(sameLevels(5), allLines()...), 4)
}

// drain acknowledges what is selected until nothing is; the levels never increase on the way.
func drain(t *testing.T, q impl.Irq, above int) {
	t.Helper()
	last, done := -1, map[int]bool{}
	for {
		line, code := impl.NextIrq(q, above)
		if code != impl.OK || line == -1 {
			break
		}
		if done[line] {
			t.Fatal("line", line, "is selected again in", q)
		}
		if last >= 0 && (q.Levels[line] > q.Levels[last] || q.Levels[line] == q.Levels[last] && line < last) {
			t.Error("line", line, "comes after", last, "in", q)
		}
		last, done[line] = line, true
		q = mustAck(t, q, line)
	}
	for line := range irqLines {
		if q.Pending[line] && q.Levels[line] > above {
			t.Error("line", line, "above", above, "was never selected:", q)
		}
	}
}

func TestPromise7AfterWholeHistories(t *testing.T) {
	n := &noise{state: 16}
	for range 20 {
		q := impl.NewIrq()
		for range 100 {
			line := n.below(irqLines)
			switch n.below(4) {
			case 0:
				q = mustLevel(t, q, line, n.below(irqLevels))
			case 1, 2:
				q = mustRaise(t, q, line)
			default:
				q = mustAck(t, q, line)
			}
			everyAbove(t, q)
		}
	}
}
