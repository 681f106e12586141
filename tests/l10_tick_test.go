package tests

import (
	"testing"

	"loop.example/g00563/impl"
)

// someTicks are the ends of the range of ticks, and numbers around the limits.
func someTicks() []int {
	return []int{0, 1, 2, 3, 9, 10, 11, 255, 256, 257, 511, 512, 1000, mostTicks - 1, mostTicks}
}

func TestTickTimersOfValidLists(t *testing.T) {
	for _, x := range validLists() {
		for _, n := range someTicks() {
			wantTicked(t, x.list, n)
		}
	}
}

func TestTickTimersWithoutTicks(t *testing.T) {
	for _, x := range validLists() {
		wantTick(t, x.list, 0, x.list, 0, 0, 0, 0)
	}
}

func TestTickTimersOneTick(t *testing.T) {
	list := withCounts(timersOf([]int{4, 4, 1, 0}), 2, 3)
	list = wantTick(t, list, 1, withCounts(list, 3, 0), 0, 1, 1, 0)
	list = wantTick(t, list, 1, withCounts(list, 0, 1), 1, 0, 1, 0)
	wantTick(t, list, 1, withCounts(list, 1, 2), 0, 0, 1, 0)
}

func TestTickTimersTheMostTicks(t *testing.T) {
	list := timersOf([]int{1, 256, 255, 7})
	wantTick(t, list, mostTicks, withCounts(list, 0, 160, 40, 5), 100000, 390, 392, 14285)
	list = withCounts(list, 0, 255, 254, 6)
	wantTick(t, list, mostTicks, withCounts(list, 0, 159, 39, 4), 100000, 391, 393, 14286)
	chain := timersOf([]int{1, 1, 1, 1}, 1, 2, 3)
	wantTick(t, chain, mostTicks, chain, 100000, 100000, 100000, 100000)
	wantTick(t, idleTimers(), mostTicks, idleTimers(), 0, 0, 0, 0)
}

// At the limit 1 each tick is an expiry, and the count is always 0.
func TestTickTimersLimitOne(t *testing.T) {
	for i := range timerCount {
		list := timersOf(nil)
		list[i].Limit = 1
		for _, n := range someTicks() {
			times := make([]int, timerCount)
			times[i] = n
			wantTick(t, list, n, list, times...)
		}
	}
}

func TestTickTimersLimit256(t *testing.T) {
	for i := range timerCount {
		for count := range mostLimit {
			list := withTimer(idleTimers(), i, impl.Timer{Count: count, Limit: 256})
			times := make([]int, timerCount)
			wantTick(t, list, 255-count, withTimer(list, i, impl.Timer{Count: 255, Limit: 256}), times...)
			times[i] = 1
			wantTick(t, list, 256-count, withTimer(list, i, impl.Timer{Limit: 256}), times...)
			wantTick(t, list, 256, list, times...)
			times[i] = 390
			wantTick(t, list, 390*256, list, times...)
		}
	}
}

// Every count at every limit, up to two expiries further.
func TestTickTimersOfEveryTimer(t *testing.T) {
	for _, limit := range []int{1, 2, 3, 10, 255, 256} {
		for count := range limit {
			for n := range 2*limit + 2 {
				list := withTimer(patternTimers(), 2, impl.Timer{Count: count, Limit: limit})
				want := withTimer(list, 2, impl.Timer{Count: (count + n) % limit, Limit: limit})
				next, often := mustTick(t, list, n)
				if next[2] != want[2] || often[2] != (count+n)/limit {
					t.Fatal(n, "ticks of", list[2], "are", next[2], often)
				}
			}
		}
	}
}

// A timer that is off does not count, whatever is around it.
func TestTickTimersThatAreOff(t *testing.T) {
	for i := range timerCount {
		for _, chain := range []bool{false, true} {
			if chain && i == 0 {
				continue
			}
			list := withTimer(timersOf([]int{1, 1, 1, 1}), i, impl.Timer{Chain: chain})
			for _, n := range someTicks() {
				times := []int{n, n, n, n}
				times[i] = 0
				wantTick(t, list, n, list, times...)
			}
		}
	}
}

// Timers that are not chained do not depend on one another.
func TestTickTimersThatAreApart(t *testing.T) {
	list := withCounts(timersOf([]int{7, 3, 256, 5}), 3, 1, 200, 4)
	for _, n := range someTicks() {
		next, often := mustTick(t, list, n)
		for i := range timerCount {
			alone, once := mustTick(t, withTimer(idleTimers(), i, list[i]), n)
			if next[i] != alone[i] || often[i] != once[i] {
				t.Error("timer", i, "is", next[i], often[i], "and alone", alone[i], once[i], "after", n, "ticks")
			}
		}
	}
}

func TestTickTimersTicksOutOfRange(t *testing.T) {
	for _, x := range validLists() {
		for _, n := range wrongTicks() {
			wantNotTicked(t, x, n, impl.ErrRange)
		}
	}
}

func TestTickTimersOfInvalidLists(t *testing.T) {
	for _, x := range invalidLists() {
		for _, n := range append(someTicks(), -1, mostTicks+1) {
			wantNotTicked(t, x, n, impl.ErrBad)
		}
	}
	for _, x := range invalidLists()[:30] {
		for _, n := range wrongTicks() {
			wantNotTicked(t, x, n, impl.ErrBad)
		}
	}
}

func TestTickTimersOfLongLists(t *testing.T) {
	for _, x := range longLists() {
		for _, n := range append(wrongTicks(), someTicks()...) {
			wantNotTicked(t, x, n, impl.ErrLong)
		}
	}
}
