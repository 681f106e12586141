package tests

import (
	"fmt"
	"slices"
	"testing"

	"loop.example/g00563/impl"
)

// spareIrq puts marked elements behind the end of both slices, where a careless append would write.
func spareIrq(q impl.Irq) impl.Irq {
	return impl.Irq{Levels: spareNumbers(q.Levels), Pending: spareFlags(q.Pending)}
}

func irqStays(q, want impl.Irq) bool {
	return numbersStay(q.Levels, want.Levels) && flagsStay(q.Pending, want.Pending)
}

func scribbleIrq(q impl.Irq) {
	scribbleNumbers(q.Levels)
	scribbleFlags(q.Pending)
}

type irqCall struct {
	name string
	call func(impl.Irq) (impl.Irq, int)
}

func irqCalls() []irqCall {
	var list []irqCall
	for line := -1; line <= irqLines; line++ {
		list = append(list,
			irqCall{fmt.Sprint("Raise of line ", line), func(q impl.Irq) (impl.Irq, int) { return impl.Raise(q, line) }},
			irqCall{fmt.Sprint("Ack of line ", line), func(q impl.Irq) (impl.Irq, int) { return impl.Ack(q, line) }})
		for _, level := range []int{-1, 0, 3, 7, 8} {
			name := fmt.Sprint("SetLevel of line ", line, " to ", level)
			list = append(list, irqCall{name, func(q impl.Irq) (impl.Irq, int) { return impl.SetLevel(q, line, level) }})
		}
	}
	return list
}

// nextOf is what NextIrq returns above every level and above what is none.
func nextOf(q impl.Irq) []int {
	var all []int
	for above := -1; above <= irqLevels; above++ {
		line, code := impl.NextIrq(q, above)
		all = append(all, line, code)
	}
	return all
}

func TestPromise1IrqArgumentsStay(t *testing.T) {
	for _, x := range allIrqs() {
		q := spareIrq(x.irq)
		impl.IrqOK(q)
		nextOf(q)
		for _, c := range irqCalls() {
			c.call(q)
			if !irqStays(q, x.irq) {
				t.Fatal("argument changed by", c.name, "of", x.name)
			}
		}
	}
}

func TestPromise1IrqResultsAreNewMemory(t *testing.T) {
	for _, x := range allIrqs() {
		for _, c := range irqCalls() {
			q := spareIrq(x.irq)
			got, _ := c.call(q)
			scribbleIrq(got)
			if !irqStays(q, x.irq) {
				t.Error("the result shares memory with the argument:", c.name, "of", x.name)
			}
			got, _ = c.call(q)
			want := copyIrq(got)
			scribbleIrq(q)
			if !equalIrqs(got, want) {
				t.Error("the argument shares memory with the result:", c.name, "of", x.name)
			}
		}
	}
}

func TestPromise1IrqResultsAreApart(t *testing.T) {
	x := irqOf([]int{0, 1, 2, 3, 4, 5, 6, 7}, 2, 5)
	for _, c := range irqCalls() {
		first, _ := c.call(x)
		second, _ := c.call(x)
		want := copyIrq(second)
		scribbleIrq(first)
		if !equalIrqs(second, want) {
			t.Error("two results share memory:", c.name)
		}
	}
	scribbleIrq(impl.NewIrq())
	wantIrq(t, "the second NewIrq", impl.NewIrq(), quietIrq(), impl.OK)
}

func TestPromise1IrqEqualCallsEqualResults(t *testing.T) {
	other := irqOf(sameLevels(7), allLines()...)
	for _, x := range allIrqs() {
		next, ok := nextOf(x.irq), impl.IrqOK(x.irq)
		for _, c := range irqCalls() {
			first, code := c.call(x.irq)
			c.call(other)
			nextOf(other)
			again, codeAgain := c.call(spareIrq(x.irq))
			if code != codeAgain || !equalIrqs(first, again) {
				t.Error("the second call differs:", c.name, "of", x.name)
			}
		}
		if !slices.Equal(nextOf(spareIrq(x.irq)), next) || impl.IrqOK(spareIrq(x.irq)) != ok {
			t.Error("the second NextIrq or IrqOK differs:", x.name)
		}
	}
}

func TestPromise1IrqEmptyAndNilAreTheSame(t *testing.T) {
	plain := quietIrq()
	pairs := [][2]impl.Irq{
		{{}, {Levels: []int{}, Pending: []bool{}}},
		{{Levels: plain.Levels}, {Levels: plain.Levels, Pending: []bool{}}},
		{{Pending: plain.Pending}, {Levels: []int{}, Pending: plain.Pending}},
	}
	for _, pair := range pairs {
		for _, c := range irqCalls() {
			a, codeA := c.call(pair[0])
			b, codeB := c.call(pair[1])
			wantNoIrq(t, c.name+" of nil", a, codeA, impl.ErrBad)
			wantNoIrq(t, c.name+" of an empty slice", b, codeB, impl.ErrBad)
		}
		if impl.IrqOK(pair[0]) || impl.IrqOK(pair[1]) || !slices.Equal(nextOf(pair[0]), nextOf(pair[1])) {
			t.Error("nil and an empty slice differ")
		}
	}
}
