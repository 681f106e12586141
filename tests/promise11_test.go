package tests

import (
	"slices"
	"testing"

	"loop.example/g00563/impl"
)

// inParts ticks as often as each part says, and returns the sums of the expiries.
func inParts(t *testing.T, list []impl.Timer, parts []int) ([]impl.Timer, []int) {
	t.Helper()
	sums := make([]int, timerCount)
	for _, n := range parts {
		next, often := mustTick(t, list, n)
		for i, times := range often {
			sums[i] += times
		}
		list = next
	}
	return list, sums
}

// checkPromise11 compares parts with their sum, which has to be a number of ticks.
func checkPromise11(t *testing.T, list []impl.Timer, parts ...int) {
	t.Helper()
	total := 0
	for _, n := range parts {
		total += n
	}
	want, times := mustTick(t, list, total)
	got, sums := inParts(t, list, parts)
	if !slices.Equal(got, want) || !slices.Equal(sums, times) {
		t.Fatal(list, "in parts of", parts, "ticks is", got, sums, "and at once", want, times)
	}
}

// splits are all lists of positive numbers whose sum is n.
func splits(n int) [][]int {
	if n == 0 {
		return [][]int{nil}
	}
	var all [][]int
	for first := 1; first <= n; first++ {
		for _, rest := range splits(n - first) {
			all = append(all, append([]int{first}, rest...))
		}
	}
	return all
}

func TestPromise11EverySplitOfSmallNumbers(t *testing.T) {
	lists := append(validLists(),
		namedTimers{"a chain of four", timersOf([]int{2, 2, 2, 1}, 1, 2, 3)},
		namedTimers{"two chains", timersOf([]int{3, 2, 2, 3}, 1, 3)},
		namedTimers{"a chain that begins behind", timersOf([]int{0, 1, 2, 2}, 2, 3)})
	for _, x := range lists {
		for n := range 10 {
			for _, parts := range splits(n) {
				checkPromise11(t, x.list, parts...)
			}
		}
	}
}

func TestPromise11EveryTwoParts(t *testing.T) {
	lists := []namedTimers{
		{"pattern", patternTimers()},
		{"example", timersOf([]int{10, 3, 0, 256}, 1)},
		{"a long chain", timersOf([]int{1, 5, 4, 3}, 1, 2, 3)},
	}
	for _, x := range lists {
		for total := range 70 {
			for first := range total + 1 {
				checkPromise11(t, x.list, first, total-first)
			}
		}
	}
}

func TestPromise11PartsWithoutTicks(t *testing.T) {
	for _, x := range validLists() {
		checkPromise11(t, x.list)
		checkPromise11(t, x.list, 0)
		checkPromise11(t, x.list, 0, 0, 0)
		checkPromise11(t, x.list, 0, 300, 0, 0, 211, 0)
	}
}

func TestPromise11OneByOne(t *testing.T) {
	for _, x := range validLists() {
		checkPromise11(t, x.list, slices.Repeat([]int{1}, 700)...)
	}
}

func TestPromise11TheMostTicks(t *testing.T) {
	for _, x := range validLists() {
		checkPromise11(t, x.list, 1, mostTicks-1)
		checkPromise11(t, x.list, mostTicks-1, 1)
		checkPromise11(t, x.list, mostTicks, 0)
		checkPromise11(t, x.list, mostTicks/2, mostTicks/2)
		checkPromise11(t, x.list, slices.Repeat([]int{1000}, 100)...)
	}
}

// timers are on or off, near their beginning or their end, and chained or not.
func (n *noise) timers() []impl.Timer {
	list := idleTimers()
	for i := range list {
		limit := []int{0, 1, 2, 3, n.below(10), n.below(257), 255, 256}[n.below(8)]
		list[i] = impl.Timer{Limit: limit, Chain: i > 0 && n.below(2) == 0}
		if limit > 0 {
			list[i].Count = []int{0, limit - 1, n.below(limit)}[n.below(3)]
		}
	}
	return list
}

func (n *noise) parts() []int {
	parts := make([]int, n.below(12))
	for i := range parts {
		parts[i] = []int{0, 1, n.below(5), n.below(300), n.below(mostTicks / 12)}[n.below(5)]
	}
	return parts
}

func TestPromise11AnyTimersInAnyParts(t *testing.T) {
	n := &noise{state: 30}
	for range 5000 {
		checkPromise11(t, n.timers(), n.parts()...)
	}
}

// Calls together may tick more often than one call may.
func TestPromise11MoreTicksThanOneCall(t *testing.T) {
	n := &noise{state: 31}
	for range 200 {
		list := n.timers()
		got, sums := inParts(t, list, []int{mostTicks, mostTicks})
		again, parts := inParts(t, list, slices.Repeat([]int{mostTicks / 10}, 20))
		if !slices.Equal(got, again) || !slices.Equal(sums, parts) {
			t.Fatal(list, "is", got, sums, "in two parts and", again, parts, "in twenty")
		}
	}
}

func TestPromise11WholeHistories(t *testing.T) {
	n := &noise{state: 32}
	for range 300 {
		list := impl.NewTimers()
		for range 60 {
			if n.below(4) == 0 {
				i := n.below(timerCount)
				list = mustSetTimer(t, list, i, n.below(20), i > 0 && n.below(2) == 0)
				continue
			}
			ticks := []int{n.below(3), n.below(50), n.below(1000)}[n.below(3)]
			first := n.below(ticks + 1)
			checkPromise11(t, list, first, ticks-first)
			list = wantTicked(t, list, ticks)
		}
	}
}
