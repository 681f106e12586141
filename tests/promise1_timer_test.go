package tests

import (
	"fmt"
	"slices"
	"testing"

	"loop.example/g00563/impl"
)

func markedTimers() []impl.Timer {
	return slices.Repeat([]impl.Timer{{Count: -77, Limit: -77, Chain: true}}, 5)
}

// spareTimers puts marked elements behind the end, where a careless append would write.
func spareTimers(list []impl.Timer) []impl.Timer {
	return slices.Concat(list, markedTimers())[:len(list)]
}

func timersStay(list, want []impl.Timer) bool {
	return slices.Equal(list, want) && slices.Equal(list[len(list):len(list)+5], markedTimers())
}

func scribbleTimers(list []impl.Timer) {
	list = list[:cap(list)]
	for i := range list {
		list[i] = impl.Timer{Count: 1234, Limit: 1234}
	}
}

type timerResult struct {
	list  []impl.Timer
	often []int
	code  int
}

func (r timerResult) equal(other timerResult) bool {
	return slices.Equal(r.list, other.list) && slices.Equal(r.often, other.often) && r.code == other.code
}

func (r timerResult) clone() timerResult {
	return timerResult{slices.Clone(r.list), slices.Clone(r.often), r.code}
}

func (r timerResult) scribble() {
	scribbleTimers(r.list)
	scribbleNumbers(r.often)
}

type timerCall struct {
	name string
	call func(list []impl.Timer) timerResult
}

// timerCalls include calls with every code.
func timerCalls() []timerCall {
	var all []timerCall
	for _, n := range []int{-1, 0, 1, 7, 300, mostTicks, mostTicks + 1} {
		all = append(all, timerCall{fmt.Sprint("TickTimers of ", n), func(list []impl.Timer) timerResult {
			next, often, code := impl.TickTimers(list, n)
			return timerResult{next, often, code}
		}})
	}
	for i := -1; i <= timerCount; i++ {
		for _, limit := range []int{-1, 0, 5, 256, 257} {
			for _, chain := range []bool{false, true} {
				name := fmt.Sprint("SetTimer of timer ", i, " to ", limit, " ", chain)
				all = append(all, timerCall{name, func(list []impl.Timer) timerResult {
					next, code := impl.SetTimer(list, i, limit, chain)
					return timerResult{list: next, code: code}
				}})
			}
		}
	}
	return all
}

func TestPromise1TimerArgumentsStay(t *testing.T) {
	for _, x := range allLists() {
		list := spareTimers(x.list)
		impl.TimersOK(list)
		for _, f := range timerCalls() {
			f.call(list)
			if !timersStay(list, x.list) {
				t.Fatal("argument changed by", f.name, "of", x.name)
			}
		}
	}
}

func TestPromise1TimerResultsAreNewMemory(t *testing.T) {
	for _, x := range allLists() {
		for _, f := range timerCalls() {
			list := spareTimers(x.list)
			f.call(list).scribble()
			if !timersStay(list, x.list) {
				t.Error("the result shares memory with the argument:", f.name, "of", x.name)
			}
			list = spareTimers(x.list)
			got := f.call(list)
			want := got.clone()
			scribbleTimers(list)
			if !got.equal(want) {
				t.Error("the argument shares memory with the result:", f.name, "of", x.name)
			}
		}
	}
}

func TestPromise1TimerResultsAreApart(t *testing.T) {
	for _, x := range allLists() {
		for _, f := range timerCalls() {
			first, second := f.call(x.list), f.call(x.list)
			want := second.clone()
			first.scribble()
			if !second.equal(want) {
				t.Error("two results share memory:", f.name, "of", x.name)
			}
		}
	}
	scribbleTimers(impl.NewTimers())
	first, second := impl.NewTimers(), impl.NewTimers()
	scribbleTimers(first)
	wantTimers(t, "NewTimers after another one", second, idleTimers(), impl.OK)
	wantTimers(t, "NewTimers after both", impl.NewTimers(), idleTimers(), impl.OK)
}

func TestPromise1TimerEqualCallsEqualResults(t *testing.T) {
	for _, x := range allLists() {
		ok := impl.TimersOK(x.list)
		for _, f := range timerCalls() {
			first := f.call(x.list)
			for _, g := range timerCalls()[:8] {
				g.call(patternTimers())
			}
			if again := f.call(spareTimers(x.list)); !first.equal(again) {
				t.Error("the second call differs:", f.name, "of", x.name)
			}
		}
		if impl.TimersOK(spareTimers(x.list)) != ok {
			t.Error("the second TimersOK differs:", x.name)
		}
	}
}

func TestPromise1TimerEmptyAndNilAreTheSame(t *testing.T) {
	for _, list := range [][]impl.Timer{nil, {}, idleTimers()[:0]} {
		if impl.TimersOK(list) {
			t.Error("TimersOK without timers")
		}
		for _, f := range timerCalls() {
			if got := f.call(list); !got.equal(timerResult{code: impl.ErrBad}) {
				t.Error(f.name, "without timers is", got)
			}
		}
	}
}

// The codes come in the order of the document, with zero values beside each of them.
func TestPromise1TimerCodesWithZeroValues(t *testing.T) {
	for _, f := range timerCalls() {
		for _, x := range invalidLists() {
			if got := f.call(x.list); !got.equal(timerResult{code: impl.ErrBad}) {
				t.Error(f.name, "of", x.name, "is", got)
			}
		}
		for _, x := range longLists() {
			if got := f.call(x.list); !got.equal(timerResult{code: impl.ErrLong}) {
				t.Error(f.name, "of", x.name, "is", got)
			}
		}
		for _, x := range validLists() {
			got := f.call(x.list)
			if got.code != impl.OK && !got.equal(timerResult{code: impl.ErrRange}) {
				t.Error(f.name, "of", x.name, "is", got)
			}
		}
	}
}
