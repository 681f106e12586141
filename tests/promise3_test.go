package tests

import (
	"fmt"
	"slices"
	"testing"

	"loop.example/g00563/impl"
)

// wantTorn checks a text that consists of parts of two roots.
func wantTorn(t *testing.T, text, a, b string) {
	t.Helper()
	r, code := impl.ReadRoot(text)
	if text == a || text == b {
		if code != impl.OK || rootLine(r) != text {
			t.Errorf("ReadRoot of a root's own text %q: code %d", text, code)
		}
	} else if code != impl.ErrRoot || !isZeroRoot(r) {
		t.Errorf("ReadRoot of the torn text %q: %v, code %d", text, r, code)
	}
}

func TestPromise3TornRootsAtEachPlace(t *testing.T) {
	gens := []int{1, 2, 3, 9, 10, 11, 19, 20, 99, 100, 101, 110, 111, 1001, 99999, 100000, 100001, 101010, 900000, 999998, 999999}
	tables := [][]int{countFrom(2, 17), countFrom(31, 17), countFrom(10, 17)}
	for _, g := range gens {
		for _, h := range gens {
			if g == h {
				continue
			}
			for _, table := range tables {
				a := rootLine(impl.Root{Gen: g, Table: tables[0]})
				b := rootLine(impl.Root{Gen: h, Table: table})
				for cut := 0; cut <= len(a); cut++ {
					wantTorn(t, a[:cut]+b[cut:], a, b)
					wantTorn(t, b[:cut]+a[cut:], a, b)
				}
			}
		}
	}
}

func TestPromise3TornRootsOnADisk(t *testing.T) {
	for _, gen := range []int{1, 8, 9, 10, 98, 99, 99998, 99999, 999996, 999997} {
		old := slotsDisk(rootLine(plainRoot(gen)), rootLine(high(gen+1)))
		before := mustLoad(t, old)
		for n := range 18 {
			pages := firstChanged(before, "new", n)
			after := mustTorn(t, old, pages, 1, impl.FaTear)
			wantPages(t, after, before)
			wantNewest(t, after, high(gen+1), 1)
			if n > 0 {
				if r, code := impl.ReadRoot(after.Sure[0]); code != impl.ErrRoot || !isZeroRoot(r) {
					t.Errorf("the torn root %q is valid", after.Sure[0])
				}
			}
		}
	}
}

// store keeps the sectors and the last root apart from the program's types.
type store struct {
	sectors [48]string
	gen     int
	slot    int
	places  [17]int
}

func newStore(pages []string) *store {
	s := &store{gen: 1}
	for i, page := range pages {
		s.places[i] = i + 2
		s.sectors[i+2] = page
	}
	s.sectors[0] = s.line(1, s.places)
	return s
}

func (s *store) line(gen int, places [17]int) string {
	return rootLine(impl.Root{Gen: gen, Table: places[:]})
}

func (s *store) pages() []string {
	var pages []string
	for _, at := range s.places {
		pages = append(pages, s.sectors[at])
	}
	return pages
}

// put applies one write as its fate says: 0 lost, 1 applied, 2 torn.
func (s *store) put(at int, text string, fate int) {
	switch fate {
	case 1:
		s.sectors[at] = text
	case 2:
		s.sectors[at] = string(tearInto([]byte(s.sectors[at]), text))
	}
}

type saving struct {
	pages  []string
	budget int
	torn   bool
	phase  int
	fates  []int
}

func (x saving) fate(i int) int {
	if len(x.fates) == 0 {
		return 0
	}
	return x.fates[i%len(x.fates)]
}

// save performs a commit and reports whether the new pages are then the loaded ones, and whether the budget was exceeded.
func (s *store) save(x saving) (saved, fault bool) {
	next := s.places
	at := 2
	n := 0
	var todo []int
	for i, page := range x.pages {
		if s.sectors[s.places[i]] != page {
			for slices.Contains(s.places[:], at) {
				at++
			}
			next[i] = at
			at++
			todo = append(todo, i)
		}
	}
	if len(todo) == 0 {
		return true, false
	}
	for _, i := range todo {
		if !x.torn && n == x.budget {
			return false, true
		}
		fate := 1
		if x.torn && x.phase == 0 {
			fate = x.fate(n)
		}
		s.put(next[i], x.pages[i], fate)
		n++
	}
	if !x.torn && n == x.budget {
		return false, true
	}
	if x.torn && x.phase == 0 {
		return false, false
	}
	fate := 1
	if x.torn && x.phase == 1 {
		fate = x.fate(0)
	}
	s.put(1-s.slot, s.line(s.gen+1, next), fate)
	if fate != 1 {
		return false, false
	}
	s.gen, s.slot, s.places = s.gen+1, 1-s.slot, next
	return true, false
}

func runSaving(t *testing.T, d impl.Disk, x saving, fault bool) impl.Disk {
	t.Helper()
	switch {
	case x.torn:
		return mustTorn(t, d, x.pages, x.phase, x.fates...)
	case fault:
		return mustFault(t, d, x.pages, x.budget)
	}
	return mustCommit(t, d, x.pages, x.budget)
}

// check compares the disk with the model, and the loaded pages with those that must be there.
func (s *store) check(t *testing.T, d impl.Disk, want []string) {
	t.Helper()
	if !slices.Equal(d.Sure, s.sectors[:]) || len(d.Cache) != 0 {
		t.Fatalf("sectors %q, not %q", d.Sure, s.sectors)
	}
	if got := mustLoad(t, d); !slices.Equal(got, want) {
		t.Fatalf("pages %q, not %q", got, want)
	}
	wantNewest(t, d, impl.Root{Gen: s.gen, Table: s.places[:]}, s.slot)
}

func (n *noise) pages(old []string) []string {
	pages := slices.Clone(old)
	for range []int{0, 1, 1, 2, 3, 8, 40}[n.below(7)] {
		pages[n.below(17)] = n.text()
	}
	return pages
}

func (n *noise) saving(old []string) saving {
	return saving{
		pages:  n.pages(old),
		budget: []int{0, 1, 2, 3, 9, 17, 18, 1000}[n.below(8)],
		torn:   n.below(2) == 0,
		phase:  n.below(3),
		fates:  n.fates(),
	}
}

func TestPromise3AgainstModel(t *testing.T) {
	n := &noise{state: 4}
	for range 60 {
		pages := n.pages(plainPages())
		s := newStore(pages)
		d := mustFormat(t, pages)
		s.check(t, d, pages)
		for range 60 {
			x := n.saving(pages)
			saved, fault := s.save(x)
			d = runSaving(t, d, x, fault)
			if saved {
				pages = x.pages
			}
			s.check(t, d, pages)
		}
	}
}

func fateLists() [][]int {
	lists := [][]int{nil}
	for a := range 3 {
		lists = append(lists, []int{a})
		for b := range 3 {
			lists = append(lists, []int{a, b})
			for c := range 3 {
				lists = append(lists, []int{a, b, c})
			}
		}
	}
	return lists
}

// history returns disks that Format and commits have written, some of them interrupted.
func history(t *testing.T) []impl.Disk {
	d := mustFormat(t, plainPages())
	disks := []impl.Disk{d}
	for i := range 6 {
		pages := withPages(mustLoad(t, d), fmt.Sprint("round ", i), i, 2*i, 16-i)
		disks = append(disks, mustFault(t, d, pages, 1))
		for _, fate := range []int{impl.FaDrop, impl.FaKeep, impl.FaTear} {
			disks = append(disks, mustTorn(t, d, pages, 0, fate), mustTorn(t, d, pages, 1, fate))
		}
		if i%2 == 0 {
			d = mustTorn(t, d, pages, 1, impl.FaTear)
		}
		d = mustCommit(t, d, pages, 1000)
		disks = append(disks, d)
	}
	return disks
}

func TestPromise3CompletelyOrNotAtAll(t *testing.T) {
	for _, d := range history(t) {
		old := mustLoad(t, d)
		for _, n := range []int{1, 2, 3, 17} {
			pages := firstChanged(old, "next", n)
			for _, fates := range fateLists() {
				kept := len(fates) > 0 && fates[0] == impl.FaKeep
				for phase, whole := range []bool{false, kept, true} {
					after := mustTorn(t, d, pages, phase, fates...)
					if whole {
						wantPages(t, after, pages)
					} else {
						wantPages(t, after, old)
					}
					wantPages(t, mustCommit(t, after, pages, 1000), pages)
					other := firstChanged(old, "other", 4)
					wantPages(t, mustCommit(t, after, other, 1000), other)
				}
			}
		}
	}
}

func TestPromise3BudgetLeavesPreviousPages(t *testing.T) {
	for _, d := range history(t) {
		old := mustLoad(t, d)
		for n := 1; n <= 17; n++ {
			pages := firstChanged(old, "next", n)
			after := d
			for budget := 0; budget <= n; budget++ {
				after = mustFault(t, after, pages, budget)
				wantPages(t, after, old)
				wantPages(t, mustCommit(t, after, pages, n+1), pages)
			}
		}
	}
}

func TestPromise3InterruptedAgainAndAgain(t *testing.T) {
	for _, d := range history(t) {
		old := mustLoad(t, d)
		r, slot, _ := impl.Newest(d)
		for i := range 20 {
			pages := firstChanged(old, fmt.Sprint("try ", i), 1+i%17)
			d = mustTorn(t, d, pages, i%2, []int{impl.FaTear, impl.FaDrop}[i/2%2], i%3)
			wantPages(t, d, old)
			wantNewest(t, d, r, slot)
		}
		pages := firstChanged(old, "at last", 5)
		d = mustCommit(t, d, pages, 6)
		wantPages(t, d, pages)
	}
}
