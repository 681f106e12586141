package tests

import (
	"testing"

	"loop.example/g00563/impl"
)

// A chained timer counts the expiries of the preceding one, at each of the places where there is one.
func TestChainOfTwo(t *testing.T) {
	for i := 1; i < timerCount; i++ {
		list := withTimer(idleTimers(), i-1, impl.Timer{Limit: 5})
		list[i] = impl.Timer{Limit: 3, Chain: true}
		times := make([]int, timerCount)
		for ticks := 1; ticks <= 60; ticks++ {
			want := withTimer(list, i-1, impl.Timer{Count: ticks % 5, Limit: 5})
			want[i].Count = ticks / 5 % 3
			times[i-1], times[i] = ticks/5, ticks/15
			wantTick(t, list, ticks, want, times...)
		}
	}
}

func TestChainOfThree(t *testing.T) {
	for first := range 2 {
		list := withTimer(idleTimers(), first, impl.Timer{Limit: 2})
		list[first+1] = impl.Timer{Limit: 3, Chain: true}
		list[first+2] = impl.Timer{Limit: 4, Chain: true}
		times := make([]int, timerCount)
		for ticks := 1; ticks <= 60; ticks++ {
			want := withTimer(list, first, impl.Timer{Count: ticks % 2, Limit: 2})
			want[first+1].Count, want[first+2].Count = ticks/2%3, ticks/6%4
			times[first], times[first+1], times[first+2] = ticks/2, ticks/6, ticks/24
			wantTick(t, list, ticks, want, times...)
		}
	}
}

func TestChainOfFour(t *testing.T) {
	list := timersOf([]int{10, 10, 10, 10}, 1, 2, 3)
	wantTick(t, list, 98765, withCounts(list, 5, 6, 7, 8), 9876, 987, 98, 9)
	wantTick(t, withCounts(list, 9, 9, 9, 9), 1, list, 1, 1, 1, 1)
	wantTick(t, withCounts(list, 9, 9, 8, 9), 1, withCounts(list, 0, 0, 9, 9), 1, 1, 0, 0)
	full := timersOf([]int{256, 256, 256, 256}, 1, 2, 3)
	wantTick(t, full, mostTicks, withCounts(full, 160, 134, 1, 0), 390, 1, 0, 0)
}

func TestChainedToATimerThatIsOff(t *testing.T) {
	for i := 1; i < timerCount; i++ {
		for _, count := range []int{0, 3} {
			list := withTimer(idleTimers(), i, impl.Timer{Count: count, Limit: 4, Chain: true})
			for _, n := range someTicks() {
				wantTick(t, list, n, list, 0, 0, 0, 0)
			}
		}
	}
}

// One that is off breaks a chain: it expires 0 times, however often the one before it does.
func TestChainedBehindAChainedTimerThatIsOff(t *testing.T) {
	list := withCounts(timersOf([]int{2, 0, 1, 5}, 1, 2, 3), 1, 0, 0, 4)
	for _, n := range []int{1, 2, 3, 100, mostTicks} {
		wantTick(t, list, n, withCounts(list, (n+1)%2), (n+1)/2, 0, 0, 0)
	}
}

// Not the count of the preceding timer, but its expiries in this call are the ticks.
func TestChainedToATimerThatDoesNotExpire(t *testing.T) {
	for i := 1; i < timerCount; i++ {
		list := withTimer(idleTimers(), i-1, impl.Timer{Count: 5, Limit: 200})
		list[i] = impl.Timer{Limit: 1, Chain: true}
		for _, n := range []int{0, 1, 2, 50, 194} {
			want := withTimer(list, i-1, impl.Timer{Count: 5 + n, Limit: 200})
			wantTick(t, list, n, want, 0, 0, 0, 0)
		}
	}
}

// Expiries of earlier calls do not count again.
func TestChainedToATimerThatExpiredBefore(t *testing.T) {
	list := timersOf([]int{3, 10}, 1)
	list = wantTick(t, list, 7, withCounts(list, 1, 2), 2, 0, 0, 0)
	list = wantTick(t, list, 1, withCounts(list, 2, 2), 0, 0, 0, 0)
	list = wantTick(t, list, 0, list, 0, 0, 0, 0)
	wantTick(t, list, 1, withCounts(list, 0, 3), 1, 0, 0, 0)
}

func TestChainedToATimerThatExpiresSeveralTimes(t *testing.T) {
	list := timersOf([]int{2, 3, 0, 9}, 1)
	wantTick(t, list, 20, withCounts(list, 0, 1, 0, 2), 10, 3, 0, 2)
	wantTick(t, withCounts(list, 1, 2), 21, withCounts(list, 0, 1, 0, 3), 11, 4, 0, 2)
	one := timersOf([]int{1, 256, 1, 1}, 1)
	wantTick(t, one, 513, withCounts(one, 0, 1), 513, 2, 513, 513)
}

// The timer behind a chained one counts all ticks if it is not chained itself.
func TestNotChainedBehindAChainedTimer(t *testing.T) {
	list := timersOf([]int{4, 2, 3, 5}, 1)
	for ticks := range 50 {
		want := withCounts(list, ticks%4, ticks/4%2, ticks%3, ticks%5)
		wantTick(t, list, ticks, want, ticks/4, ticks/8, ticks/3, ticks/5)
	}
}

// Two chains beside each other: the third timer begins the second one.
func TestTwoChains(t *testing.T) {
	list := timersOf([]int{4, 2, 3, 5}, 1, 3)
	for ticks := range 50 {
		want := withCounts(list, ticks%4, ticks/4%2, ticks%3, ticks/3%5)
		wantTick(t, list, ticks, want, ticks/4, ticks/8, ticks/3, ticks/15)
	}
}

// Every way to chain and to switch timers off, against the model.
func TestEveryChain(t *testing.T) {
	for bits := range 8 {
		var chained []int
		for i := 1; i < timerCount; i++ {
			if bits>>(i-1)&1 == 1 {
				chained = append(chained, i)
			}
		}
		for off := range 16 {
			limits := []int{3, 2, 1, 4}
			for i := range limits {
				if off>>i&1 == 1 {
					limits[i] = 0
				}
			}
			for ticks := range 80 {
				wantTicked(t, timersOf(limits, chained...), ticks)
			}
		}
	}
}

func TestChainAfterSetTimer(t *testing.T) {
	list := mustSetTimer(t, timersOf([]int{2, 5}), 1, 5, true)
	list = wantTick(t, list, 6, withCounts(list, 0, 3), 3, 0, 0, 0)
	list = mustSetTimer(t, list, 1, 5, false)
	list = wantTick(t, list, 6, withCounts(list, 0, 1), 3, 1, 0, 0)
	list = mustSetTimer(t, list, 0, 0, false)
	wantTick(t, list, 4, withCounts(list, 0, 0), 0, 1, 0, 0)
}
