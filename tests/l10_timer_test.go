package tests

import (
	"fmt"
	"testing"

	"loop.example/g00563/impl"
)

func TestTimerExamples(t *testing.T) {
	list := mustSetTimer(t, impl.NewTimers(), 0, 10, false)
	list = mustSetTimer(t, list, 1, 3, true)
	list = mustSetTimer(t, list, 3, 256, false)
	limits := timersOf([]int{10, 3, 0, 256}, 1)
	list = wantTick(t, list, 9, withCounts(limits, 9, 0, 0, 9), 0, 0, 0, 0)
	list = wantTick(t, list, 1, withCounts(limits, 0, 1, 0, 10), 1, 0, 0, 0)
	wantTick(t, list, 25, withCounts(limits, 5, 0, 0, 35), 2, 1, 0, 0)
	for _, x := range validLists() {
		wantNotSet(t, x, 0, 1, true, impl.ErrRange)
	}
}

func TestNewTimers(t *testing.T) {
	list := impl.NewTimers()
	wantTimers(t, "NewTimers", list, []impl.Timer{{}, {}, {}, {}}, impl.OK)
	if !impl.TimersOK(list) {
		t.Error("NewTimers is not valid")
	}
}

func TestTimersOK(t *testing.T) {
	for _, x := range validLists() {
		if !impl.TimersOK(x.list) {
			t.Error("not valid:", x.name)
		}
	}
	for _, x := range append(invalidLists(), longLists()...) {
		if impl.TimersOK(x.list) {
			t.Error("valid:", x.name)
		}
	}
}

// Every count at every limit, and the numbers beside them.
func TestTimersOKOfEveryTimer(t *testing.T) {
	for i := range timerCount {
		for limit := -2; limit <= mostLimit+2; limit++ {
			for count := -2; count <= mostLimit+2; count++ {
				want := limit >= 0 && limit <= mostLimit && count >= 0 && (count < limit || count == 0)
				list := withTimer(idleTimers(), i, impl.Timer{Count: count, Limit: limit, Chain: i > 0 && count%2 == 0})
				if impl.TimersOK(list) != want {
					t.Fatal("TimersOK is", !want, "for timer", i, list[i])
				}
			}
		}
	}
}

func TestTimersOKOfEveryChain(t *testing.T) {
	for bits := range 16 {
		var chained []int
		for i := range timerCount {
			if bits>>i&1 == 1 {
				chained = append(chained, i)
			}
		}
		for _, limits := range [][]int{nil, {5, 0, 7, 256}, {1, 1, 1, 1}} {
			if got, want := impl.TimersOK(timersOf(limits, chained...)), bits&1 == 0; got != want {
				t.Error("TimersOK is", got, "with", chained, "chained and limits", limits)
			}
		}
	}
}

func TestSetTimerOfEveryTimer(t *testing.T) {
	for _, x := range validLists() {
		for i := range timerCount {
			for _, limit := range []int{0, 1, 2, 255, 256} {
				mustSetTimer(t, x.list, i, limit, false)
				if i > 0 {
					mustSetTimer(t, x.list, i, limit, true)
				}
			}
		}
	}
}

func TestSetTimerToEveryLimit(t *testing.T) {
	for i := range timerCount {
		for limit := range mostLimit + 1 {
			mustSetTimer(t, patternTimers(), i, limit, i > 0 && limit%3 == 0)
		}
	}
}

// A timer that is set to what it was counts from 0 all the same.
func TestSetTimerToTheSame(t *testing.T) {
	for i, x := range patternTimers() {
		mustSetTimer(t, patternTimers(), i, x.Limit, x.Chain)
	}
}

func TestSetTimerOneAfterTheOther(t *testing.T) {
	list := impl.NewTimers()
	for _, i := range []int{3, 0, 2, 1} {
		list = mustSetTimer(t, list, i, 10+i, i > 1)
	}
	wantTimers(t, "four timers", list, timersOf([]int{10, 11, 12, 13}, 2, 3), impl.OK)
}

func TestSetTimerNumbersOutOfRange(t *testing.T) {
	for _, x := range validLists() {
		for _, i := range beyond(timerCount - 1) {
			for _, limit := range []int{-1, 0, 1, 256, 257} {
				wantNotSet(t, x, i, limit, false, impl.ErrRange)
				wantNotSet(t, x, i, limit, true, impl.ErrRange)
			}
		}
	}
}

func TestSetTimerLimitsOutOfRange(t *testing.T) {
	for _, x := range validLists() {
		for i := range timerCount {
			for _, limit := range wrongLimits() {
				wantNotSet(t, x, i, limit, false, impl.ErrRange)
				wantNotSet(t, x, i, limit, true, impl.ErrRange)
			}
		}
	}
}

func TestSetTimerChainsTheFirst(t *testing.T) {
	for _, x := range validLists() {
		for limit := range mostLimit + 1 {
			wantNotSet(t, x, 0, limit, true, impl.ErrRange)
		}
	}
}

func wantSetTimerCode(t *testing.T, lists []namedTimers, want int) {
	t.Helper()
	for _, x := range lists {
		for _, i := range append(someNumbers(), 1, 2) {
			for _, limit := range []int{-1, 0, 1, 256, 257} {
				wantNotSet(t, x, i, limit, false, want)
				wantNotSet(t, x, i, limit, true, want)
			}
		}
	}
}

func TestSetTimerOfInvalidLists(t *testing.T) {
	wantSetTimerCode(t, invalidLists(), impl.ErrBad)
}

// The timer that is set does not have to be the invalid one, and setting it does not make the list valid.
func TestSetTimerBesideAnInvalidTimer(t *testing.T) {
	for other := range timerCount {
		for i := range timerCount {
			x := namedTimers{fmt.Sprint("an invalid timer ", other), withTimer(patternTimers(), other, impl.Timer{Count: 1})}
			wantNotSet(t, x, i, 5, false, impl.ErrBad)
		}
	}
}

func TestSetTimerOfLongLists(t *testing.T) {
	wantSetTimerCode(t, longLists(), impl.ErrLong)
}
