package tests

import (
	"fmt"
	"math"
	"slices"
	"strings"
	"testing"

	"loop.example/g00563/impl"
)

func TestShadowConstants(t *testing.T) {
	if impl.Pages != 17 || impl.MaxGen != 999999 {
		t.Error("sizes", impl.Pages, impl.MaxGen)
	}
}

func TestChapter3RootExample(t *testing.T) {
	text := "000001" + "0203040506070809101112131415161718" + "000001"
	if got, code := impl.RootText(plainRoot(1)); got != text || code != impl.OK {
		t.Error("RootText", got, code)
	}
	if r, code := impl.ReadRoot(text); !equalRoots(r, plainRoot(1)) || code != impl.OK {
		t.Error("ReadRoot", r, code)
	}
	if r, code := impl.ReadRoot(text[:40] + "000002"); !isZeroRoot(r) || code != impl.ErrRoot {
		t.Error("ReadRoot with two generations", r, code)
	}
}

func TestChapter3CommitExample(t *testing.T) {
	old := plainPages()
	next := withPages(old, "new", 4, 11)
	d := mustFormat(t, old)
	wantFree(t, d, countFrom(19, 29))
	after := mustCommit(t, d, next, 3)
	wantRead(t, after, 19, "new 4")
	wantRead(t, after, 20, "new 11")
	wantPages(t, after, next)
	r := plainRoot(2)
	r.Table[4], r.Table[11] = 19, 20
	wantNewest(t, after, r, 1)
	for _, budget := range []int{0, 1, 2} {
		wantPages(t, mustFault(t, d, next, budget), old)
	}
}

func TestChapter3TornExample(t *testing.T) {
	old := plainPages()
	next := withPages(old, "new", 4, 11)
	d := mustFormat(t, old)
	for _, fates := range [][]int{nil, {impl.FaDrop}, {impl.FaKeep}, {impl.FaTear}, {impl.FaKeep, impl.FaTear}} {
		wantPages(t, mustTorn(t, d, next, 0, fates...), old)
		wantPages(t, mustTorn(t, d, next, 2, fates...), next)
	}
	wantPages(t, mustTorn(t, d, next, 1), old)
	wantPages(t, mustTorn(t, d, next, 1, impl.FaTear), old)
	wantPages(t, mustTorn(t, d, next, 1, impl.FaKeep), next)
}

func TestChapter3CodeExamples(t *testing.T) {
	if pages, code := impl.LoadPages(impl.NewDisk()); code != impl.ErrRoot || len(pages) != 0 {
		t.Error("LoadPages of a new disk", pages, code)
	}
	d := mustWrite(t, mustFormat(t, plainPages()), 40, "x")
	if got, code := impl.Commit(d, plainPages(), 9); code != impl.ErrBad || !isZeroDisk(got) {
		t.Error("Commit with a cached write", code)
	}
}

func validRoots() []impl.Root {
	backward := plainRoot(12345)
	slices.Reverse(backward.Table)
	roots := []impl.Root{
		plainRoot(1), plainRoot(2), plainRoot(9), plainRoot(10), plainRoot(100000), plainRoot(123456),
		plainRoot(impl.MaxGen - 1), plainRoot(impl.MaxGen),
		{Gen: 1, Table: countFrom(31, 17)},
		{Gen: impl.MaxGen, Table: countFrom(31, 17)},
		backward,
	}
	for i := range 17 {
		roots = append(roots, rootWith(70+i, i, 47), rootWith(1070+i, i, 19))
	}
	return roots
}

func invalidRoots() []impl.Root {
	table := countFrom(2, 17)
	roots := []impl.Root{
		{},
		{Gen: 1},
		{Table: table},
		{Gen: 1, Table: []int{2}},
		{Gen: 1, Table: countFrom(2, 16)},
		{Gen: 1, Table: countFrom(2, 18)},
		{Gen: 1, Table: countFrom(1, 17)},
		{Gen: 1, Table: countFrom(32, 17)},
		{Gen: 1, Table: make([]int, 17)},
		{Gen: 1, Table: make([]int, impl.MaxList+1)},
		{Gen: 1, Table: slices.Repeat([]int{2}, 17)},
		{Gen: 1, Table: append(countFrom(2, 17), 18)},
		{Gen: 1, Table: append(countFrom(2, 16), 2)},
	}
	for _, gen := range []int{0, -1, -999999, impl.MaxGen + 1, impl.MaxGen + 2, math.MinInt, math.MaxInt} {
		roots = append(roots, plainRoot(gen))
	}
	for _, sector := range []int{1, 0, -1, 48, 49, 99, 100, 258, math.MinInt, math.MaxInt} {
		for i := range 17 {
			roots = append(roots, rootWith(1, i, sector))
		}
	}
	for i := range 17 {
		roots = append(roots, rootWith(1, i, 2+(i+1)%17), rootWith(1, i, 2+(i+16)%17))
	}
	return roots
}

func TestRootOK(t *testing.T) {
	for _, r := range validRoots() {
		if !impl.RootOK(r) {
			t.Error("not valid:", r)
		}
	}
	for _, r := range invalidRoots() {
		if impl.RootOK(r) {
			t.Error("valid:", r.Gen, len(r.Table), r.Table[:min(len(r.Table), 20)])
		}
	}
}

func TestRootText(t *testing.T) {
	for _, r := range validRoots() {
		if got, code := impl.RootText(r); code != impl.OK || got != rootLine(r) {
			t.Error("RootText", r, got, code)
		}
	}
	for _, r := range invalidRoots() {
		if got, code := impl.RootText(r); code != impl.ErrBad || got != "" {
			t.Error("RootText of an invalid root", got, code)
		}
	}
}

func TestReadRootIsTheInverse(t *testing.T) {
	for _, r := range validRoots() {
		text, _ := impl.RootText(r)
		if got, code := impl.ReadRoot(text); code != impl.OK || !equalRoots(got, r) {
			t.Error("ReadRoot", text, got, code)
		}
	}
}

func wantNoRoot(t *testing.T, text string) {
	t.Helper()
	if r, code := impl.ReadRoot(text); code != impl.ErrRoot || !isZeroRoot(r) {
		t.Errorf("ReadRoot of %d bytes %.60q = %v, code %d", len(text), text, r, code)
	}
}

func TestReadRootOtherStrings(t *testing.T) {
	text := rootLine(plainRoot(1))
	for n := range len(text) {
		wantNoRoot(t, text[:n])
		wantNoRoot(t, text[n+1:])
		wantNoRoot(t, text[:n]+text[n+1:])
		wantNoRoot(t, text[:n]+"0"+text[n:])
	}
	others := []string{
		text + "0", "0" + text, text + " ", " " + text, text + "\n", text + text,
		strings.Repeat("0", 46), strings.Repeat("9", 46), strings.Repeat("0", 100),
		"000000" + text[6:40] + "000000",
		"000002" + text[6:], text[:40] + "000002", "100000" + text[6:], text[:40] + "100000",
		"00001" + text[6:40] + "00001", "0000001" + text[6:40] + "0000001",
		"-00001" + text[6:40] + "-00001", "+00001" + text[6:40] + "+00001",
		text[:6] + "+2" + text[8:], text[:6] + " 2" + text[8:], text[:6] + "2 " + text[8:], text[:6] + "-2" + text[8:],
		text[:6] + text[8:40] + text[40:], text[:40] + "19" + text[40:],
		longText(impl.MaxText), text + longText(impl.MaxText-len(text)),
	}
	for _, other := range others {
		wantNoRoot(t, other)
	}
}

func TestReadRootBytesThatAreNoDigits(t *testing.T) {
	for _, gen := range []int{1, 123456, impl.MaxGen} {
		text := rootLine(plainRoot(gen))
		for i := range len(text) {
			for b := range 256 {
				if b >= '0' && b <= '9' {
					continue
				}
				one := []byte(text)
				one[i] = byte(b)
				wantNoRoot(t, string(one))
				if i < 6 {
					one[40+i] = byte(b)
					wantNoRoot(t, string(one))
				}
			}
		}
	}
}

func TestReadRootOneOtherDigit(t *testing.T) {
	text := rootLine(plainRoot(1))
	for i := range len(text) {
		for b := byte('0'); b <= '9'; b++ {
			one := []byte(text)
			one[i] = b
			r, code := impl.ReadRoot(string(one))
			if code == impl.OK && rootLine(r) != string(one) {
				t.Errorf("ReadRoot of %q = %v", one, r)
			}
			if i < 6 || i >= 40 {
				if same := string(one) == text; same != (code == impl.OK) {
					t.Errorf("ReadRoot of %q: code %d", one, code)
				}
			}
		}
	}
}

func TestReadRootSectors(t *testing.T) {
	for i := range 17 {
		for sector := range 100 {
			r := rootWith(8, i, sector)
			free := sector >= 19 && sector <= 47 || sector == 2+i
			got, code := impl.ReadRoot(rootLine(r))
			if free && (code != impl.OK || !equalRoots(got, r)) {
				t.Error("ReadRoot", r, got, code)
			}
			if !free && (code != impl.ErrRoot || !isZeroRoot(got)) {
				t.Error("ReadRoot with sector", sector, "for page", i, code)
			}
		}
	}
}

func TestReadRootLong(t *testing.T) {
	text := rootLine(plainRoot(1))
	for _, long := range []string{longText(impl.MaxText + 1), text + longText(impl.MaxText), strings.Repeat("0", 2*impl.MaxText)} {
		if r, code := impl.ReadRoot(long); code != impl.ErrLong || !isZeroRoot(r) {
			t.Error("ReadRoot of", len(long), "bytes", r, code)
		}
	}
}

func TestFormat(t *testing.T) {
	wide := make([]string, 17)
	for i := range wide {
		wide[i] = longText(100 - i%2)
	}
	for _, pages := range [][]string{plainPages(), make([]string, 17), wide, slices.Repeat([]string{"\x00\xff"}, 17)} {
		want := impl.NewDisk()
		want.Sure[0] = "0000010203040506070809101112131415161718000001"
		copy(want.Sure[2:], pages)
		d := mustFormat(t, pages)
		if !equalDisks(d, want) {
			t.Errorf("Format %q", d.Sure)
		}
		wantPages(t, d, pages)
		wantNewest(t, d, plainRoot(1), 0)
		wantFree(t, d, countFrom(19, 29))
	}
}

type badPages struct {
	name  string
	pages []string
	code  int
}

func wrongPages() []badPages {
	list := []badPages{
		{"no page", nil, impl.ErrSize},
		{"one page", []string{"a"}, impl.ErrSize},
		{"16 pages", plainPages()[1:], impl.ErrSize},
		{"18 pages", append(plainPages(), ""), impl.ErrSize},
		{"16 pages, one too long", append(plainPages()[2:], longText(101)), impl.ErrSize},
		{"MaxList pages", make([]string, impl.MaxList), impl.ErrSize},
		{"MaxList + 1 pages", make([]string, impl.MaxList+1), impl.ErrLong},
		{"MaxList + 1 pages, one too long", append(make([]string, impl.MaxList), longText(101)), impl.ErrLong},
	}
	for _, i := range []int{0, 8, 16} {
		for _, n := range []int{101, impl.MaxText, impl.MaxText + 1} {
			pages := plainPages()
			pages[i] = longText(n)
			list = append(list, badPages{fmt.Sprint(n, " bytes in page ", i), pages, impl.ErrSize})
		}
	}
	return list
}

func TestFormatCodes(t *testing.T) {
	for _, x := range wrongPages() {
		if d, code := impl.Format(x.pages); code != x.code || !isZeroDisk(d) {
			t.Error("Format of", x.name, code)
		}
	}
}

func wantDiskCode(t *testing.T, name string, d impl.Disk, want int) {
	t.Helper()
	if r, slot, code := impl.Newest(d); code != want || slot != 0 || !isZeroRoot(r) {
		t.Error("Newest:", name, r, slot, code)
	}
	if pages, code := impl.LoadPages(d); code != want || len(pages) != 0 {
		t.Error("LoadPages:", name, pages, code)
	}
	if free, code := impl.FreeSectors(d); code != want || len(free) != 0 {
		t.Error("FreeSectors:", name, free, code)
	}
}

func TestInvalidDisksHaveNoRoot(t *testing.T) {
	for _, x := range invalidDisks() {
		wantDiskCode(t, x.name, x.disk, impl.ErrBad)
		if len(x.disk.Sure) > 0 {
			rooted := copyDisk(x.disk)
			rooted.Sure[0] = rootLine(plainRoot(1))
			if !impl.DiskOK(rooted) {
				wantDiskCode(t, x.name+", with a root", rooted, impl.ErrBad)
			}
		}
	}
}

func TestNoValidRoot(t *testing.T) {
	text := rootLine(plainRoot(1))
	texts := []string{"", "x", text[:45], text + "0", text[:40] + "000002", rootLine(plainRoot(0)), rootLine(rootWith(1, 3, 48)), text + strings.Repeat(" ", 54)}
	for _, a := range texts {
		for _, b := range texts {
			wantDiskCode(t, fmt.Sprintf("%q, %q", a, b), slotsDisk(a, b), impl.ErrRoot)
		}
	}
	elsewhere := slotsDisk("", "")
	elsewhere.Sure[2], elsewhere.Sure[47] = text, text
	wantDiskCode(t, "a root that is not in a slot", elsewhere, impl.ErrRoot)
	hidden := mustWrite(t, slotsDisk(text, ""), 0, "hidden")
	wantDiskCode(t, "a root under a cached write", hidden, impl.ErrRoot)
}

// high has its pages in the last sectors, so that it shares none with a plain root.
func high(gen int) impl.Root {
	return impl.Root{Gen: gen, Table: countFrom(31, 17)}
}

func TestNewestOfTwoSlots(t *testing.T) {
	torn := rootLine(plainRoot(9))[:23] + rootLine(high(7))[23:]
	cases := []struct {
		name  string
		texts [2]string
		root  impl.Root
		slot  int
	}{
		{"slot 0 alone", [2]string{rootLine(high(5)), ""}, high(5), 0},
		{"slot 1 alone", [2]string{"", rootLine(high(5))}, high(5), 1},
		{"slot 0 and no root", [2]string{rootLine(high(1)), torn}, high(1), 0},
		{"slot 1 and no root", [2]string{torn, rootLine(high(1))}, high(1), 1},
		{"slot 0 is newer", [2]string{rootLine(high(6)), rootLine(plainRoot(5))}, high(6), 0},
		{"slot 1 is newer", [2]string{rootLine(plainRoot(5)), rootLine(high(6))}, high(6), 1},
		{"slot 0 is much newer", [2]string{rootLine(high(100000)), rootLine(plainRoot(99999))}, high(100000), 0},
		{"slot 1 is much newer", [2]string{rootLine(plainRoot(1)), rootLine(high(impl.MaxGen))}, high(impl.MaxGen), 1},
		{"equal generations", [2]string{rootLine(high(6)), rootLine(plainRoot(6))}, high(6), 0},
		{"equal last generations", [2]string{rootLine(plainRoot(impl.MaxGen)), rootLine(high(impl.MaxGen))}, plainRoot(impl.MaxGen), 0},
		{"equal roots", [2]string{rootLine(plainRoot(1)), rootLine(plainRoot(1))}, plainRoot(1), 0},
	}
	for _, c := range cases {
		d := slotsDisk(c.texts[0], c.texts[1])
		cached := mustWrite(t, mustWrite(t, slotsDisk("", ""), 1, c.texts[1]), 0, c.texts[0])
		for _, x := range []impl.Disk{d, cached, mustFlush(t, cached)} {
			wantNewest(t, x, c.root, c.slot)
			wantPages(t, x, sectorTexts(c.root.Table))
			var free []int
			for at := 2; at < 48; at++ {
				if !slices.Contains(c.root.Table, at) {
					free = append(free, at)
				}
			}
			wantFree(t, x, free)
		}
	}
}

func TestRootInTheCache(t *testing.T) {
	d := mustWrite(t, slotsDisk(rootLine(plainRoot(4)), ""), 1, rootLine(high(5)))
	wantNewest(t, d, high(5), 1)
	wantPages(t, d, sectorTexts(high(5).Table))
	wantFree(t, d, countFrom(2, 29))
	wantNewest(t, mustCrash(t, d), plainRoot(4), 0)
	d = mustWrite(t, d, 1, rootLine(high(3)))
	wantNewest(t, d, plainRoot(4), 0)
	d = mustWrite(t, d, 0, "no root")
	wantNewest(t, d, high(3), 1)
}

func TestPagesInTheCache(t *testing.T) {
	d := mustFormat(t, plainPages())
	d = mustWrite(t, mustWrite(t, d, 4, "first"), 18, "other")
	d = mustWrite(t, mustWrite(t, d, 4, "second"), 19, "no page")
	want := plainPages()
	want[2], want[16] = "second", "other"
	wantPages(t, d, want)
	wantPages(t, mustCrash(t, d), plainPages())
	wantFree(t, d, countFrom(19, 29))
}

func TestFreeSectorsBetweenUsedOnes(t *testing.T) {
	r := impl.Root{Gen: 3}
	var odd []int
	for at := 34; at >= 2; at -= 2 {
		r.Table = append(r.Table, at)
	}
	for at := 3; at < 48; at++ {
		if at%2 == 1 || at > 34 {
			odd = append(odd, at)
		}
	}
	d := slotsDisk("", rootLine(r))
	wantFree(t, d, odd)
	wantPages(t, d, sectorTexts(r.Table))
}
