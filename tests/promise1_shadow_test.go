package tests

import (
	"fmt"
	"slices"
	"testing"

	"loop.example/g00563/impl"
)

func shadowCalls() []diskCall {
	commit := func(pages []string, budget int) func(impl.Disk) (impl.Disk, int) {
		return func(d impl.Disk) (impl.Disk, int) { return impl.Commit(d, pages, budget) }
	}
	torn := func(pages []string, phase int, fates ...int) func(impl.Disk) (impl.Disk, int) {
		return func(d impl.Disk) (impl.Disk, int) { return impl.CommitTorn(d, pages, phase, fates) }
	}
	pages := firstChanged(plainPages(), "promise 1", 3)
	return []diskCall{
		{"commit", commit(pages, 1000)},
		{"commit of other pages", commit(withPages(plainPages(), "promise 1", 2, 16), 18)},
		{"commit of first pages", commit(plainPages(), 1000)},
		{"commit without budget", commit(pages, 0)},
		{"commit with a small budget", commit(pages, 2)},
		{"commit with a wrong budget", commit(pages, -1)},
		{"commit of no pages", commit(nil, 1)},
		{"commit of too many pages", commit(make([]string, impl.MaxList+1), 1)},
		{"phase 0", torn(pages, 0, impl.FaTear, impl.FaKeep)},
		{"phase 1 without fates", torn(pages, 1)},
		{"phase 1 that keeps", torn(pages, 1, impl.FaKeep)},
		{"phase 1 that tears", torn(pages, 1, impl.FaTear)},
		{"phase 2", torn(pages, 2)},
		{"phase 3", torn(pages, 3)},
		{"another fate", torn(pages, 0, 3)},
		{"too many fates", torn(pages, 0, make([]int, impl.MaxList+1)...)},
	}
}

// spareTexts puts marked elements behind the end, where a careless append would write.
func spareTexts(list []string) []string {
	marks := slices.Repeat([]string{spareMark}, 5)
	return slices.Concat(list, marks)[:len(list)]
}

func textsStay(list, want []string) bool {
	return slices.Equal(list, want) && slices.Equal(list[len(list):len(list)+5], slices.Repeat([]string{spareMark}, 5))
}

func spareNumbers(list []int) []int {
	return slices.Concat(list, slices.Repeat([]int{-77}, 5))[:len(list)]
}

func numbersStay(list, want []int) bool {
	return slices.Equal(list, want) && slices.Equal(list[len(list):len(list)+5], slices.Repeat([]int{-77}, 5))
}

func scribbleTexts(list []string) {
	for i := range list[:cap(list)] {
		list[:cap(list)][i] = "scribble"
	}
}

func scribbleNumbers(list []int) {
	for i := range list[:cap(list)] {
		list[:cap(list)][i] = 1234
	}
}

func TestPromise1ShadowReadersLeaveTheDisk(t *testing.T) {
	for _, x := range allDisks(t) {
		d := spareDisk(x.disk)
		r, _, _ := impl.Newest(d)
		pages, _ := impl.LoadPages(d)
		free, _ := impl.FreeSectors(d)
		scribbleNumbers(r.Table)
		scribbleTexts(pages)
		scribbleNumbers(free)
		if !equalDisks(d, x.disk) || !spareIsKept(d) {
			t.Error("argument changed by Newest, LoadPages or FreeSectors of", x.name)
		}
	}
}

func TestPromise1ShadowReadersAgain(t *testing.T) {
	results := func(d impl.Disk) string {
		r, slot, code := impl.Newest(d)
		pages, codePages := impl.LoadPages(d)
		free, codeFree := impl.FreeSectors(d)
		text := fmt.Sprint(r.Gen, r.Table, slot, code, len(pages), codePages, free, codeFree)
		for _, page := range pages {
			text += fmt.Sprintf(" %q", page)
		}
		scribbleNumbers(r.Table)
		scribbleTexts(pages)
		scribbleNumbers(free)
		return text
	}
	for _, x := range allDisks(t) {
		first := results(x.disk)
		for _, other := range shadowDisks(t) {
			results(other.disk)
		}
		if results(spareDisk(x.disk)) != first {
			t.Error("the second call differs:", x.name)
		}
	}
}

func TestPromise1Roots(t *testing.T) {
	for _, r := range append(validRoots(), invalidRoots()...) {
		spare := impl.Root{Gen: r.Gen, Table: spareNumbers(r.Table)}
		ok := impl.RootOK(spare)
		text, code := impl.RootText(spare)
		if spare.Gen != r.Gen || !numbersStay(spare.Table, r.Table) {
			t.Error("RootOK or RootText changes", r.Gen)
		}
		read, codeRead := impl.ReadRoot(text)
		scribbleNumbers(read.Table)
		again, codeAgain := impl.ReadRoot(text)
		if codeRead != codeAgain || (code == impl.OK && !equalRoots(again, r)) {
			t.Error("the second ReadRoot differs:", text)
		}
		textAgain, codeText := impl.RootText(r)
		if impl.RootOK(r) != ok || textAgain != text || codeText != code {
			t.Error("the second RootOK or RootText differs:", r.Gen)
		}
	}
}

func TestPromise1PagesStay(t *testing.T) {
	lists := []badPages{{"plain pages", plainPages(), impl.OK}, {"changed pages", withPages(plainPages(), "new", 1, 8), impl.OK}}
	for _, p := range append(lists, wrongPages()...) {
		pages := spareTexts(p.pages)
		formatted, _ := impl.Format(pages)
		scribble(formatted)
		for _, x := range allDisks(t) {
			for _, budget := range []int{-1, 0, 1, 1000} {
				after, _ := impl.Commit(x.disk, pages, budget)
				scribble(after)
			}
			for phase := range 4 {
				after, _ := impl.CommitTorn(x.disk, pages, phase, []int{impl.FaKeep, impl.FaTear})
				scribble(after)
			}
		}
		if !textsStay(pages, p.pages) {
			t.Error("pages changed:", p.name)
		}
	}
}

func TestPromise1ResultsDoNotFollowThePages(t *testing.T) {
	pages := spareTexts(withPages(plainPages(), "new", 1, 8))
	formatted := mustFormat(t, pages)
	committed := mustCommit(t, mustFormat(t, plainPages()), pages, 3)
	torn := mustTorn(t, mustFormat(t, plainPages()), pages, 1, impl.FaKeep)
	want := []impl.Disk{copyDisk(formatted), copyDisk(committed), copyDisk(torn)}
	scribbleTexts(pages)
	for i, d := range []impl.Disk{formatted, committed, torn} {
		if !equalDisks(d, want[i]) {
			t.Error("result", i, "shares memory with the pages")
		}
	}
}

func TestPromise1TornFatesStay(t *testing.T) {
	d := mustFormat(t, plainPages())
	pages := firstChanged(plainPages(), "new", 5)
	for _, f := range tornFates() {
		for phase := range 4 {
			fates := spareNumbers(f.fates)
			impl.CommitTorn(d, pages, phase, fates)
			impl.CommitTorn(impl.Disk{}, pages, phase, fates)
			if !numbersStay(fates, f.fates) {
				t.Error("fates changed:", f.name, phase)
			}
		}
	}
}

func TestPromise1FormatAgain(t *testing.T) {
	first := mustFormat(t, plainPages())
	want := copyDisk(first)
	scribble(first)
	mustFormat(t, make([]string, 17))
	if again := mustFormat(t, spareTexts(plainPages())); !equalDisks(again, want) {
		t.Error("the second Format differs")
	}
}

func TestPromise1ShadowEmptyAndNilAreTheSame(t *testing.T) {
	for _, pages := range [][]string{nil, {}} {
		if d, code := impl.Format(pages); code != impl.ErrSize || !isZeroDisk(d) {
			t.Error("Format of no pages", code)
		}
	}
	for _, table := range [][]int{nil, {}} {
		if text, code := impl.RootText(impl.Root{Gen: 1, Table: table}); text != "" || code != impl.ErrBad {
			t.Error("RootText without a table", text, code)
		}
	}
	none := mustFormat(t, plainPages())
	none.Cache = nil
	empty := copyDisk(none)
	empty.Cache = []impl.Write{}
	for _, c := range shadowCalls() {
		a, codeA := c.call(none)
		b, codeB := c.call(empty)
		if codeA != codeB || !equalDisks(a, b) {
			t.Error("nil and an empty cache differ:", c.name)
		}
	}
	pages := firstChanged(plainPages(), "new", 5)
	for phase := range 3 {
		a, codeA := impl.CommitTorn(none, pages, phase, nil)
		b, codeB := impl.CommitTorn(none, pages, phase, []int{})
		if codeA != impl.OK || codeB != impl.OK || !equalDisks(a, b) {
			t.Error("nil and empty fates differ", phase, codeA, codeB)
		}
	}
}
