package tests

import (
	"fmt"
	"slices"
	"strings"
	"testing"

	"loop.example/g00563/impl"
)

func plainPages() []string {
	pages := make([]string, 17)
	for i := range pages {
		pages[i] = fmt.Sprintf("page %02d", i)
	}
	return pages
}

func withPages(pages []string, text string, places ...int) []string {
	next := slices.Clone(pages)
	for _, i := range places {
		next[i] = fmt.Sprintf("%s %d", text, i)
	}
	return next
}

// firstChanged changes the first n pages.
func firstChanged(pages []string, text string, n int) []string {
	next := slices.Clone(pages)
	for i := range n {
		next[i] = fmt.Sprintf("%s %d", text, i)
	}
	return next
}

func countFrom(first, n int) []int {
	list := make([]int, n)
	for i := range list {
		list[i] = first + i
	}
	return list
}

func plainRoot(gen int) impl.Root {
	return impl.Root{Gen: gen, Table: countFrom(2, 17)}
}

func rootWith(gen, place, sector int) impl.Root {
	r := plainRoot(gen)
	r.Table[place] = sector
	return r
}

// rootLine forms the text of a root without the program, also of invalid ones.
func rootLine(r impl.Root) string {
	var b strings.Builder
	fmt.Fprintf(&b, "%06d", r.Gen)
	for _, at := range r.Table {
		fmt.Fprintf(&b, "%02d", at)
	}
	fmt.Fprintf(&b, "%06d", r.Gen)
	return b.String()
}

func equalRoots(a, b impl.Root) bool {
	return a.Gen == b.Gen && slices.Equal(a.Table, b.Table)
}

func isZeroRoot(r impl.Root) bool {
	return r.Gen == 0 && len(r.Table) == 0
}

func mustFormat(t *testing.T, pages []string) impl.Disk {
	t.Helper()
	d, code := impl.Format(pages)
	if code != impl.OK || !impl.DiskOK(d) || len(d.Cache) != 0 {
		t.Fatal("Format: code", code)
	}
	return d
}

func mustCommit(t *testing.T, d impl.Disk, pages []string, budget int) impl.Disk {
	t.Helper()
	next, code := impl.Commit(d, pages, budget)
	if code != impl.OK || !impl.DiskOK(next) || len(next.Cache) != 0 {
		t.Fatal("Commit with budget", budget, "code", code)
	}
	return next
}

func mustFault(t *testing.T, d impl.Disk, pages []string, budget int) impl.Disk {
	t.Helper()
	next, code := impl.Commit(d, pages, budget)
	if code != impl.ErrFault || !impl.DiskOK(next) || len(next.Cache) != 0 {
		t.Fatal("Commit with budget", budget, "code", code, "not ErrFault")
	}
	return next
}

func mustTorn(t *testing.T, d impl.Disk, pages []string, phase int, fates ...int) impl.Disk {
	t.Helper()
	next, code := impl.CommitTorn(d, pages, phase, fates)
	if code != impl.OK || !impl.DiskOK(next) || len(next.Cache) != 0 {
		t.Fatal("CommitTorn in phase", phase, "with", fates, "code", code)
	}
	return next
}

func mustLoad(t *testing.T, d impl.Disk) []string {
	t.Helper()
	pages, code := impl.LoadPages(d)
	if code != impl.OK || len(pages) != 17 {
		t.Fatal("LoadPages:", len(pages), "pages, code", code)
	}
	return pages
}

func wantPages(t *testing.T, d impl.Disk, want []string) {
	t.Helper()
	if got := mustLoad(t, d); !slices.Equal(got, want) {
		t.Errorf("LoadPages = %q, not %q", got, want)
	}
}

func wantNewest(t *testing.T, d impl.Disk, want impl.Root, slot int) {
	t.Helper()
	r, at, code := impl.Newest(d)
	if code != impl.OK || at != slot || !equalRoots(r, want) {
		t.Error("Newest", r, at, code, "not", want, slot)
	}
}

func wantFree(t *testing.T, d impl.Disk, want []int) {
	t.Helper()
	if got, code := impl.FreeSectors(d); code != impl.OK || !slices.Equal(got, want) {
		t.Error("FreeSectors", got, code, "not", want)
	}
}

// slotsDisk has numbered sectors and the texts in its slots.
func slotsDisk(slot0, slot1 string) impl.Disk {
	d := impl.NewDisk()
	for at := range d.Sure {
		d.Sure[at] = fmt.Sprint("sector ", at)
	}
	d.Sure[0], d.Sure[1] = slot0, slot1
	return d
}

func sectorTexts(table []int) []string {
	pages := make([]string, len(table))
	for i, at := range table {
		pages[i] = fmt.Sprint("sector ", at)
	}
	return pages
}

func lastGenDisk(gen int) impl.Disk {
	return slotsDisk(rootLine(plainRoot(gen)), "")
}

// shadowDisks have roots in various places; those with an empty cache are ready for a commit.
func shadowDisks(t *testing.T) []namedDisk {
	formatted := mustFormat(t, plainPages())
	second := mustCommit(t, formatted, withPages(plainPages(), "second", 0, 9, 16), 1000)
	third := mustCommit(t, second, firstChanged(plainPages(), "third", 17), 1000)
	return []namedDisk{
		{"formatted", formatted},
		{"after one commit", second},
		{"after two commits", third},
		{"with a torn root in slot 1", mustTorn(t, formatted, withPages(plainPages(), "torn", 3), 1, impl.FaTear)},
		{"with a torn root in slot 0", mustTorn(t, second, withPages(plainPages(), "torn", 3), 1, impl.FaTear)},
		{"with torn pages", mustTorn(t, third, withPages(plainPages(), "torn", 3, 4, 5), 0, impl.FaTear, impl.FaKeep)},
		{"after a fault", mustFault(t, second, withPages(plainPages(), "fault", 3, 4, 5), 2)},
		{"with equal generations", slotsDisk(rootLine(plainRoot(7)), rootLine(impl.Root{Gen: 7, Table: countFrom(31, 17)}))},
		{"with the last generation", lastGenDisk(impl.MaxGen)},
		{"with the last generation but one", lastGenDisk(impl.MaxGen - 1)},
		{"formatted, with a cached write", mustWrite(t, formatted, 40, "x")},
		{"with a root in the cache only", mustWrite(t, impl.NewDisk(), 1, rootLine(plainRoot(3)))},
	}
}
