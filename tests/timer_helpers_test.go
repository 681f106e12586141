package tests

import (
	"fmt"
	"slices"
	"testing"

	"loop.example/g00563/impl"
)

const (
	timerCount = 4
	mostLimit  = 256
	mostTicks  = 100000
)

// idleTimers does not use NewTimers.
func idleTimers() []impl.Timer {
	return make([]impl.Timer, timerCount)
}

// patternTimers has four different timers that all count, two of them chained.
func patternTimers() []impl.Timer {
	return []impl.Timer{
		{Count: 3, Limit: 7},
		{Count: 1, Limit: 3, Chain: true},
		{Count: 200, Limit: 256},
		{Count: 4, Limit: 5, Chain: true},
	}
}

// timersOf has timers that count from 0; the numbers are the chained ones.
func timersOf(limits []int, chained ...int) []impl.Timer {
	list := idleTimers()
	for i, limit := range limits {
		list[i].Limit = limit
	}
	for _, i := range chained {
		list[i].Chain = true
	}
	return list
}

func withTimer(list []impl.Timer, i int, x impl.Timer) []impl.Timer {
	list = slices.Clone(list)
	list[i] = x
	return list
}

func withCounts(list []impl.Timer, counts ...int) []impl.Timer {
	list = slices.Clone(list)
	for i, count := range counts {
		list[i].Count = count
	}
	return list
}

// tickedOf is what chapter 11 describes, for a valid list: it counts every single tick.
func tickedOf(list []impl.Timer, n int) ([]impl.Timer, []int) {
	list, often := slices.Clone(list), make([]int, timerCount)
	for i := range list {
		ticks := n
		if list[i].Chain {
			ticks = often[i-1]
		}
		if list[i].Limit == 0 {
			continue
		}
		for range ticks {
			list[i].Count++
			if list[i].Count == list[i].Limit {
				list[i].Count = 0
				often[i]++
			}
		}
	}
	return list, often
}

// edgeTimers are at the ends of the ranges of both fields.
func edgeTimers() []impl.Timer {
	return []impl.Timer{
		{},
		{Limit: 1},
		{Limit: 2}, {Limit: 2, Count: 1},
		{Limit: 255}, {Limit: 255, Count: 254},
		{Limit: 256}, {Limit: 256, Count: 1}, {Limit: 256, Count: 255},
	}
}

// wrongCounts are no counts at this limit.
func wrongCounts(limit int) []int {
	end := max(limit, 1)
	return append([]int{end, end + 1, end + 255, end + 256, -end, 255 + end}, farNumbers()...)
}

func wrongLimits() []int {
	return beyond(mostLimit)
}

func wrongTicks() []int {
	list := []int{-1, -2, -99999, -100000, -100001, 100001, 100002, 200000, 200001, 1 << 17, 1<<17 + 1}
	for _, n := range beyond(mostTicks) {
		if n < 0 || n > mostTicks {
			list = append(list, n)
		}
	}
	return list
}

func invalidTimers() []impl.Timer {
	list := []impl.Timer{{Count: -1, Limit: -1}, {Count: 257, Limit: 257}, {Count: 256, Limit: 257}}
	for _, limit := range wrongLimits() {
		list = append(list, impl.Timer{Limit: limit})
	}
	for _, limit := range []int{0, 1, 2, 10, 255, 256} {
		for _, count := range wrongCounts(limit) {
			list = append(list, impl.Timer{Count: count, Limit: limit})
		}
	}
	return list
}

type namedTimers struct {
	name string
	list []impl.Timer
}

func validLists() []namedTimers {
	all := []namedTimers{
		{"idle", idleTimers()},
		{"pattern", patternTimers()},
		{"example", timersOf([]int{10, 3, 0, 256}, 1)},
		{"all expire at each tick", timersOf([]int{1, 1, 1, 1}, 1, 2, 3)},
		{"all off and chained", timersOf(nil, 1, 2, 3)},
		{"full", withCounts(timersOf([]int{256, 256, 256, 256}, 1, 2, 3), 255, 255, 255, 255)},
	}
	for i := range timerCount {
		for _, x := range edgeTimers() {
			all = append(all, namedTimers{fmt.Sprint("timer ", i, " ", x), withTimer(patternTimers(), i, x)})
			if i > 0 {
				x.Chain = true
				all = append(all, namedTimers{fmt.Sprint("timer ", i, " ", x), withTimer(patternTimers(), i, x)})
			}
		}
	}
	return all
}

// timerList has n timers that are all valid, so that nothing but their number is wrong.
func timerList(n int) []impl.Timer {
	return slices.Repeat(patternTimers(), n/timerCount+1)[:n]
}

func invalidLists() []namedTimers {
	all := []namedTimers{
		{"nil", nil},
		{"empty", []impl.Timer{}},
		{"an invalid timer alone", []impl.Timer{{Limit: -1}}},
	}
	for _, n := range []int{1, 2, 3, 5, 8, 260, impl.MaxList - 1, impl.MaxList} {
		all = append(all,
			namedTimers{fmt.Sprint(n, " timers"), timerList(n)},
			namedTimers{fmt.Sprint(n, " zero timers"), make([]impl.Timer, n)})
	}
	for _, x := range append(edgeTimers(), patternTimers()[0]) {
		x.Chain = true
		all = append(all, namedTimers{fmt.Sprint("the first one is chained: ", x), withTimer(patternTimers(), 0, x)})
	}
	for i := range timerCount {
		for _, x := range invalidTimers() {
			all = append(all, namedTimers{fmt.Sprint("timer ", i, " ", x), withTimer(patternTimers(), i, x)})
			x.Chain = true
			all = append(all, namedTimers{fmt.Sprint("timer ", i, " ", x), withTimer(idleTimers(), i, x)})
		}
	}
	return all
}

func longLists() []namedTimers {
	return []namedTimers{
		{"MaxList + 1 timers", timerList(impl.MaxList + 1)},
		{"2 * MaxList timers", timerList(2 * impl.MaxList)},
		{"MaxList + 1 zero timers", make([]impl.Timer, impl.MaxList+1)},
		{"MaxList + 1 invalid timers", slices.Repeat([]impl.Timer{{Limit: 257}}, impl.MaxList+1)},
	}
}

func allLists() []namedTimers {
	return slices.Concat(validLists(), invalidLists(), longLists())
}

func wantTimers(t *testing.T, what string, got, want []impl.Timer, code int) {
	t.Helper()
	if code != impl.OK || !slices.Equal(got, want) {
		t.Error(what, "is", got, "code", code, "and not", want)
	}
}

func wantNoTimers(t *testing.T, what string, got []impl.Timer, code, want int) {
	t.Helper()
	if code != want || len(got) != 0 {
		t.Error(what, "is", got, "code", code, "and not code", want)
	}
}

func mustSetTimer(t *testing.T, list []impl.Timer, i, limit int, chain bool) []impl.Timer {
	t.Helper()
	next, code := impl.SetTimer(list, i, limit, chain)
	want := withTimer(list, i, impl.Timer{Limit: limit, Chain: chain})
	wantTimers(t, fmt.Sprint("SetTimer of timer ", i, " to ", limit, " ", chain, " in ", list), next, want, code)
	if !impl.TimersOK(next) {
		t.Error("SetTimer returns an invalid list:", next)
	}
	return next
}

func wantNotSet(t *testing.T, x namedTimers, i, limit int, chain bool, want int) {
	t.Helper()
	next, code := impl.SetTimer(x.list, i, limit, chain)
	if code != want || len(next) != 0 {
		wantNoTimers(t, fmt.Sprint("SetTimer of timer ", i, " to ", limit, " ", chain, ", ", x.name), next, code, want)
	}
}

// mustTick does not compare with the model.
func mustTick(t *testing.T, list []impl.Timer, n int) ([]impl.Timer, []int) {
	t.Helper()
	next, often, code := impl.TickTimers(list, n)
	if code != impl.OK || len(often) != timerCount || !impl.TimersOK(next) {
		t.Fatal("TickTimers of", n, "ticks of", list, "is", next, often, "code", code)
	}
	return next, often
}

func wantTick(t *testing.T, list []impl.Timer, n int, want []impl.Timer, times ...int) []impl.Timer {
	t.Helper()
	next, often := mustTick(t, list, n)
	if !slices.Equal(next, want) || !slices.Equal(often, times) {
		t.Error("TickTimers of", n, "ticks of", list, "is", next, often, "and not", want, times)
	}
	return next
}

// wantTicked compares ticks with the model.
func wantTicked(t *testing.T, list []impl.Timer, n int) []impl.Timer {
	t.Helper()
	want, times := tickedOf(list, n)
	return wantTick(t, list, n, want, times...)
}

func wantNotTicked(t *testing.T, x namedTimers, n, want int) {
	t.Helper()
	next, often, code := impl.TickTimers(x.list, n)
	if code != want || len(next) != 0 || len(often) != 0 {
		t.Error("TickTimers of", n, "ticks,", x.name, "is", next, often, "code", code, "and not code", want)
	}
}
