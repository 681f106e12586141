package tests

import (
	"fmt"
	"math"
	"slices"
	"strings"
	"testing"

	"loop.example/g00563/impl"
)

func TestCommitWithoutChanges(t *testing.T) {
	for _, x := range shadowDisks(t) {
		r, _, _ := impl.Newest(x.disk)
		if len(x.disk.Cache) != 0 || r.Gen == impl.MaxGen {
			continue
		}
		pages := mustLoad(t, x.disk)
		for _, budget := range []int{0, 1, 2, 1000} {
			if after := mustCommit(t, x.disk, pages, budget); !equalDisks(after, x.disk) {
				t.Error("Commit without changes writes:", x.name, budget)
			}
		}
		for phase := range 3 {
			for _, fate := range []int{impl.FaDrop, impl.FaKeep, impl.FaTear} {
				if after := mustTorn(t, x.disk, pages, phase, fate); !equalDisks(after, x.disk) {
					t.Error("CommitTorn without changes writes:", x.name, phase, fate)
				}
			}
		}
	}
}

func TestCommitWritesOnlyWhatDiffers(t *testing.T) {
	cases := [][]int{{0}, {16}, {7}, {0, 16}, {2, 3, 5, 8, 13}, {0, 1, 2, 3, 4, 5, 6, 7, 8, 9, 10, 11, 12, 13, 14, 15, 16}}
	for _, places := range cases {
		pages := withPages(plainPages(), "new", places...)
		d := mustFormat(t, plainPages())
		want := copyDisk(d)
		r := plainRoot(2)
		for i, place := range places {
			want.Sure[19+i] = pages[place]
			r.Table[place] = 19 + i
		}
		want.Sure[1] = rootLine(r)
		if after := mustCommit(t, d, pages, len(places)+1); !equalDisks(after, want) {
			t.Errorf("Commit of %v: %q", places, after.Sure)
		}
		if after := mustTorn(t, d, pages, 2); !equalDisks(after, want) {
			t.Errorf("CommitTorn of %v: %q", places, after.Sure)
		}
	}
}

func TestCommitsInARow(t *testing.T) {
	d := mustFormat(t, plainPages())
	pages := plainPages()
	for i := range 30 {
		old := d
		places := []int{i % 17, (i + 5) % 17, (i * i) % 17}
		pages = withPages(pages, fmt.Sprint("commit ", i), places...)
		d = mustCommit(t, d, pages, 4)
		wantPages(t, d, pages)
		r, slot, _ := impl.Newest(d)
		if r.Gen != i+2 || slot != (i+1)%2 {
			t.Error("commit", i, "has generation", r.Gen, "in slot", slot)
		}
		before, _, _ := impl.Newest(old)
		for _, at := range before.Table {
			if d.Sure[at] != old.Sure[at] {
				t.Error("commit", i, "overwrites sector", at, "of the previous root")
			}
		}
		if d.Sure[1-slot] != old.Sure[1-slot] {
			t.Error("commit", i, "overwrites the previous root")
		}
	}
}

func TestCommitReusesFreeSectors(t *testing.T) {
	d := mustFormat(t, plainPages())
	d = mustCommit(t, d, withPages(plainPages(), "b", 3, 16), 3)
	free := append([]int{5, 18}, countFrom(21, 27)...)
	wantFree(t, d, free)
	d = mustCommit(t, d, withPages(plainPages(), "c", 3, 16), 3)
	wantRead(t, d, 5, "c 3")
	wantRead(t, d, 18, "c 16")
	wantFree(t, d, countFrom(19, 29))
	d = mustCommit(t, d, firstChanged(plainPages(), "d", 17), 18)
	for i := range 17 {
		wantRead(t, d, 19+i, fmt.Sprint("d ", i))
	}
	wantFree(t, d, append(countFrom(2, 17), countFrom(36, 12)...))
}

func TestCommitUsesTheOrderOfPages(t *testing.T) {
	backward := impl.Root{Gen: 41, Table: countFrom(20, 17)}
	slices.Reverse(backward.Table)
	d := slotsDisk(rootLine(backward), rootLine(plainRoot(40)))
	pages := withPages(sectorTexts(backward.Table), "new", 15, 1, 8)
	d = mustCommit(t, d, pages, 4)
	wantRead(t, d, 2, "new 1")
	wantRead(t, d, 3, "new 8")
	wantRead(t, d, 4, "new 15")
	next := impl.Root{Gen: 42, Table: slices.Clone(backward.Table)}
	next.Table[1], next.Table[8], next.Table[15] = 2, 3, 4
	wantNewest(t, d, next, 1)
}

func TestCommitWithEqualGenerations(t *testing.T) {
	d := slotsDisk(rootLine(plainRoot(6)), rootLine(high(6)))
	after := mustCommit(t, d, withPages(sectorTexts(plainRoot(6).Table), "new", 0), 2)
	wantNewest(t, after, rootWith(7, 0, 19), 1)
	wantRead(t, after, 0, rootLine(plainRoot(6)))
}

func TestCommitPagesOfEachSize(t *testing.T) {
	d := mustFormat(t, plainPages())
	for _, page := range []string{"", "x", longText(99), longText(100), "\x00\xff\n"} {
		pages := plainPages()
		pages[0], pages[16] = page, page
		wantPages(t, mustCommit(t, d, pages, 3), pages)
		wantPages(t, mustTorn(t, d, pages, 1, impl.FaKeep), pages)
	}
}

func TestCommitBudgets(t *testing.T) {
	d := mustFormat(t, plainPages())
	for n := 1; n <= 17; n++ {
		pages := firstChanged(plainPages(), "new", n)
		for budget := 0; budget <= n; budget++ {
			want := copyDisk(d)
			copy(want.Sure[19:], pages[:budget])
			if after := mustFault(t, d, pages, budget); !equalDisks(after, want) {
				t.Errorf("Commit of %d pages with budget %d: %q", n, budget, after.Sure)
			}
		}
		whole := mustCommit(t, d, pages, n+1)
		wantPages(t, whole, pages)
		for _, budget := range []int{n + 2, 19, 999, 1000} {
			if after := mustCommit(t, d, pages, budget); !equalDisks(after, whole) {
				t.Error("Commit of", n, "pages with budget", budget)
			}
		}
	}
}

func TestCommitLastGeneration(t *testing.T) {
	d := lastGenDisk(impl.MaxGen - 1)
	pages := withPages(mustLoad(t, d), "last", 3)
	last := mustCommit(t, d, pages, 2)
	wantNewest(t, last, rootWith(impl.MaxGen, 3, 19), 1)
	for _, x := range []impl.Disk{last, lastGenDisk(impl.MaxGen)} {
		loaded := mustLoad(t, x)
		// The code does not depend on whether a page differs: the chapter ties it to the generation alone.
		for _, next := range [][]string{withPages(loaded, "more", 5), loaded} {
			for _, budget := range []int{0, 1, 2, 1000} {
				if got, code := impl.Commit(x, next, budget); code != impl.ErrFull || !equalDisks(got, x) {
					t.Error("Commit after the last generation", budget, code)
				}
			}
			for phase := range 3 {
				if got, code := impl.CommitTorn(x, next, phase, []int{impl.FaKeep}); code != impl.ErrFull || !equalDisks(got, x) {
					t.Error("CommitTorn after the last generation", phase, code)
				}
			}
		}
	}
}

// codedPages, codedDisk and codedNumber carry the code that they cause, or OK.
type codedDisk struct {
	name string
	disk impl.Disk
	code int
}

type codedNumber struct{ n, code int }

func commitPages() []badPages {
	return append(wrongPages(), badPages{"changed pages", firstChanged(plainPages(), "changed", 2), impl.OK})
}

func commitDisks(t *testing.T) []codedDisk {
	formatted := mustFormat(t, plainPages())
	list := []codedDisk{
		{"formatted", formatted, impl.OK},
		{"cached write", mustWrite(t, formatted, 40, "x"), impl.ErrBad},
		{"cached write, no root", mustWrite(t, impl.NewDisk(), 40, "x"), impl.ErrBad},
		{"cached root", mustWrite(t, impl.NewDisk(), 0, rootLine(plainRoot(1))), impl.ErrBad},
		{"cached write, last generation", mustWrite(t, lastGenDisk(impl.MaxGen), 40, ""), impl.ErrBad},
		{"new", impl.NewDisk(), impl.ErrRoot},
		{"no root", slotsDisk("x", rootLine(plainRoot(0))), impl.ErrRoot},
		{"last generation", lastGenDisk(impl.MaxGen), impl.ErrFull},
	}
	for _, x := range invalidDisks() {
		list = append(list, codedDisk{x.name, x.disk, impl.ErrBad})
	}
	return list
}

// firstCode applies the order of chapter 3 to the codes of pages, disk and own arguments.
func firstCode(pages, disk, own int) int {
	switch {
	case pages != impl.OK:
		return pages
	case disk == impl.ErrBad:
		return disk
	case own == impl.ErrRange:
		return own
	case disk != impl.OK:
		return disk
	}
	return own
}

func checkBeside(t *testing.T, name string, before, got impl.Disk, code, want int) {
	t.Helper()
	if code != want {
		t.Error(name, "code", code, "not", want)
		return
	}
	switch code {
	case impl.OK, impl.ErrFault:
		if !impl.DiskOK(got) || len(got.Cache) != 0 {
			t.Error(name, "no valid disk beside", code)
		}
	case impl.ErrRoot, impl.ErrFull:
		if !equalDisks(got, before) {
			t.Error(name, "the disk is not unchanged beside", code)
		}
	default:
		if !isZeroDisk(got) {
			t.Error(name, "a disk beside", code)
		}
	}
}

func TestCommitCodesInOrder(t *testing.T) {
	budgets := []codedNumber{
		{-1, impl.ErrRange}, {1001, impl.ErrRange}, {math.MinInt, impl.ErrRange}, {math.MaxInt, impl.ErrRange},
		{0, impl.ErrFault}, {1, impl.ErrFault}, {2, impl.ErrFault}, {3, impl.OK}, {1000, impl.OK},
	}
	for _, p := range commitPages() {
		for _, d := range commitDisks(t) {
			for _, b := range budgets {
				got, code := impl.Commit(d.disk, p.pages, b.n)
				name := fmt.Sprint("Commit: ", p.name, ", ", d.name, ", ", b.n)
				checkBeside(t, name, d.disk, got, code, firstCode(p.code, d.code, b.code))
			}
		}
	}
}

type codedFates struct {
	name  string
	fates []int
	code  int
}

func tornFates() []codedFates {
	list := []codedFates{
		{"none", nil, impl.OK},
		{"empty", []int{}, impl.OK},
		{"all", []int{0, 1, 2}, impl.OK},
		{"MaxList", slices.Repeat([]int{2}, impl.MaxList), impl.OK},
		{"MaxList + 1", make([]int, impl.MaxList+1), impl.ErrLong},
		{"MaxList + 1, out of range", slices.Repeat([]int{3}, impl.MaxList+1), impl.ErrLong},
		{"MaxList, the last one out of range", append(make([]int, impl.MaxList-1), 3), impl.ErrRange},
	}
	for _, fate := range []int{-1, 3, 258, math.MinInt, math.MaxInt} {
		list = append(list, codedFates{fmt.Sprint(fate), []int{fate}, impl.ErrRange}, codedFates{fmt.Sprint("1 ", fate), []int{1, fate}, impl.ErrRange})
	}
	return list
}

func TestCommitTornCodesInOrder(t *testing.T) {
	phases := []codedNumber{
		{-1, impl.ErrRange}, {3, impl.ErrRange}, {math.MinInt, impl.ErrRange}, {math.MaxInt, impl.ErrRange},
		{0, impl.OK}, {1, impl.OK}, {2, impl.OK},
	}
	for _, p := range commitPages() {
		for _, d := range commitDisks(t) {
			for _, phase := range phases {
				for _, f := range tornFates() {
					want := firstCode(p.code, d.code, max(phase.code, f.code))
					if f.code == impl.ErrLong {
						want = impl.ErrLong
					}
					got, code := impl.CommitTorn(d.disk, p.pages, phase.n, f.fates)
					name := fmt.Sprint("CommitTorn: ", p.name, ", ", d.name, ", ", phase.n, ", fates ", f.name)
					checkBeside(t, name, d.disk, got, code, want)
				}
			}
		}
	}
}

func TestCommitTornPhase0(t *testing.T) {
	d := mustFormat(t, plainPages())
	pages := withPages(plainPages(), "abcdef", 2, 5, 9, 14)
	sectors := func(texts ...string) impl.Disk {
		want := copyDisk(d)
		copy(want.Sure[19:], texts)
		return want
	}
	cases := []struct {
		fates []int
		want  impl.Disk
	}{
		{nil, d},
		{[]int{0}, d},
		{[]int{1}, sectors("abcdef 2", "abcdef 5", "abcdef 9", "abcdef 14")},
		{[]int{2}, sectors("abcd", "abcd", "abcd", "abcd")},
		{[]int{1, 0}, sectors("abcdef 2", "", "abcdef 9", "")},
		{[]int{0, 2, 1}, sectors("", "abcd", "abcdef 9", "")},
		{[]int{2, 2, 2, 1, 0, 0}, sectors("abcd", "abcd", "abcd", "abcdef 14")},
	}
	for _, c := range cases {
		if after := mustTorn(t, d, pages, 0, c.fates...); !equalDisks(after, c.want) {
			t.Errorf("phase 0 with %v: %q", c.fates, after.Sure)
		}
	}
}

func TestCommitTornPhase1(t *testing.T) {
	d := mustCommit(t, mustFormat(t, plainPages()), withPages(plainPages(), "old", 1), 2)
	pages := withPages(plainPages(), "new", 2, 5)
	pages[1] = "old 1"
	oldRoot := rootLine(plainRoot(1))
	next := rootWith(3, 1, 19)
	next.Table[2], next.Table[5] = 3, 20
	newRoot := rootLine(next)
	roots := map[int]string{impl.FaDrop: oldRoot, impl.FaKeep: newRoot, impl.FaTear: newRoot[:23] + oldRoot[23:]}
	for first, root := range roots {
		want := copyDisk(d)
		want.Sure[0], want.Sure[3], want.Sure[20] = root, "new 2", "new 5"
		for _, fates := range [][]int{{first}, {first, 0}, {first, 1, 2}, {first, 2, 1, 0}} {
			if after := mustTorn(t, d, pages, 1, fates...); !equalDisks(after, want) {
				t.Errorf("phase 1 with %v: %q", fates, after.Sure)
			}
		}
	}
	if after := mustTorn(t, d, pages, 1); !equalDisks(after, mustTorn(t, d, pages, 1, impl.FaDrop)) {
		t.Error("phase 1 without fates")
	}
}

func TestCommitTornPhase2(t *testing.T) {
	for _, x := range shadowDisks(t) {
		r, _, _ := impl.Newest(x.disk)
		if len(x.disk.Cache) != 0 || r.Gen == impl.MaxGen {
			continue
		}
		pages := withPages(mustLoad(t, x.disk), "whole", 0, 6, 16)
		want := mustCommit(t, x.disk, pages, 4)
		for _, f := range tornFates() {
			if f.code == impl.OK && !equalDisks(mustTorn(t, x.disk, pages, 2, f.fates...), want) {
				t.Error("phase 2 differs from Commit:", x.name, f.name)
			}
		}
	}
}

func TestCommitTornInAnEmptySlot(t *testing.T) {
	d := mustFormat(t, plainPages())
	pages := withPages(plainPages(), "new", 0)
	after := mustTorn(t, d, pages, 1, impl.FaTear)
	wantRead(t, after, 1, rootLine(rootWith(2, 0, 19))[:23])
	wantNewest(t, after, plainRoot(1), 0)
	again := mustTorn(t, after, withPages(plainPages(), strings.Repeat("x", 20), 0, 1), 1, impl.FaTear)
	wantPages(t, again, plainPages())
	wantNewest(t, mustCommit(t, again, pages, 2), rootWith(2, 0, 19), 1)
}
