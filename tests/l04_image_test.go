package tests

import (
	"fmt"
	"slices"
	"strings"
	"testing"

	"loop.example/g00563/impl"
)

func TestImageExamples(t *testing.T) {
	f := withGuard(withCell(erasedFlash(0), 17, 165), 15)
	pages := mustImage(t, f)
	if !strings.HasPrefix(pages[1], "ffa5") || pages[16] != "0000000000000001" {
		t.Error("PagesOf", pages[1], pages[16])
	}
	wantNoFlash(t, "16 pages", pages[:16], impl.ErrSize)
}

func TestPagesOf(t *testing.T) {
	for _, x := range validFlashes() {
		pages, code := impl.PagesOf(x.flash)
		if want := imagePages(x.flash); code != impl.OK || !slices.Equal(pages, want) {
			t.Errorf("PagesOf of %s: code %d, %q, not %q", x.name, code, pages, want)
		}
	}
	n := &noise{state: 7}
	for range 1000 {
		f := n.flash()
		if pages := mustImage(t, f); !slices.Equal(pages, imagePages(f)) {
			t.Fatalf("PagesOf: %q, not %q", pages, imagePages(f))
		}
	}
}

func TestPagesOfLengths(t *testing.T) {
	for _, x := range validFlashes() {
		for i, page := range mustImage(t, x.flash) {
			want := 32
			if i == 16 {
				want = 16
			}
			if len(page) != want {
				t.Error("page", i, "of", x.name, "has", len(page), "bytes")
			}
		}
	}
}

func TestPagesOfEachState(t *testing.T) {
	want := imagePages(patternFlash(0, 0, 6, 15))
	for state := range flashStates {
		if pages := mustImage(t, patternFlash(state, 0, 6, 15)); !slices.Equal(pages, want) {
			t.Errorf("PagesOf in state %d: %q", state, pages)
		}
	}
}

func TestPagesOfInvalid(t *testing.T) {
	for _, x := range invalidFlashes() {
		if pages, code := impl.PagesOf(x.flash); len(pages) != 0 || code != impl.ErrBad {
			t.Error("PagesOf of", x.name, "has", len(pages), "pages, code", code)
		}
	}
}

func TestFlashOfCodes(t *testing.T) {
	for _, p := range variousPages() {
		if p.code == impl.OK {
			mustFlash(t, p.pages)
			continue
		}
		wantNoFlash(t, p.name, p.pages, p.code)
	}
}

func TestFlashOfEveryNumberOfPages(t *testing.T) {
	image := imagePages(patternFlash(0, 2))
	for n := range 60 {
		if n == 17 {
			continue
		}
		many := slices.Repeat(image, 4)[:n]
		wantNoFlash(t, fmt.Sprint(n, " pages"), many, impl.ErrSize)
		wantNoFlash(t, fmt.Sprint(n, " empty pages"), make([]string, n), impl.ErrSize)
		wantNoFlash(t, fmt.Sprint(n, " pages of other digits"), slices.Repeat([]string{"G"}, n), impl.ErrSize)
	}
	wantNoFlash(t, "MaxList + 1 pages, one too long", append(slices.Repeat(image, 241)[:4096], longText(101)), impl.ErrLong)
}

// A page that is too long for the disk counts before one that is malformed, whichever of them is first.
func TestFlashOfSizeBeforeForm(t *testing.T) {
	image := imagePages(patternFlash(0, 2))
	for place := range 17 {
		long := withPage(image, place, strings.Repeat("1", 101))
		wantNoFlash(t, fmt.Sprint("101 bytes in page ", place), long, impl.ErrSize)
		for other := range 17 {
			if other != place {
				wantNoFlash(t, fmt.Sprint("101 bytes in ", place, " and none in ", other), withPage(long, other, ""), impl.ErrSize)
				wantNoFlash(t, fmt.Sprint("101 bytes in ", place, " and a wrong digit in ", other), withPage(long, other, "g"), impl.ErrSize)
			}
		}
		wantNoFlash(t, fmt.Sprint("100 bytes in page ", place), withPage(image, place, strings.Repeat("1", 100)), impl.ErrForm)
	}
}

func TestFlashOfEveryLength(t *testing.T) {
	for _, image := range [][]string{imagePages(patternFlash(0, 2)), imagePages(erasedFlash(0))} {
		for place := range 17 {
			right := 32
			if place == 16 {
				right = 16
			}
			for n := range 101 {
				pages := withPage(image, place, strings.Repeat(image[place], 7)[:n])
				if n == right {
					mustFlash(t, pages)
					continue
				}
				wantNoFlash(t, fmt.Sprint(n, " bytes in page ", place), pages, impl.ErrForm)
			}
		}
	}
}

func wantOneByteChange(t *testing.T, image []string, place, at, b int, isDigit func(byte) bool) {
	t.Helper()
	pages := withPage(image, place, withBytes(image[place], at, oneByte(b)))
	f, code := impl.FlashOf(pages)
	if !isDigit(byte(b)) {
		if code != impl.ErrForm || !isZeroFlash(f) {
			t.Error("FlashOf with byte", b, "at", at, "of page", place, "code", code)
		}
		return
	}
	if code != impl.OK || !slices.Equal(imagePages(f), pages) || f.State != impl.StRead {
		t.Error("FlashOf with digit", b, "at", at, "of page", place, "code", code)
	}
}

func TestFlashOfEveryByteAtEachPlace(t *testing.T) {
	image := imagePages(patternFlash(0, 0, 3, 15))
	for at := range 32 {
		for b := range 256 {
			wantOneByteChange(t, image, at%16, at, b, isHexDigit)
			wantOneByteChange(t, image, 15, at, b, isHexDigit)
		}
		for place := range 16 {
			for _, b := range []byte("/:`gAF@G +-\x00\x80\xff") {
				wantOneByteChange(t, image, place, at, int(b), isHexDigit)
			}
		}
	}
	for at := range 16 {
		for b := range 256 {
			wantOneByteChange(t, image, 16, at, b, isGuardDigit)
		}
	}
}

// Characters of several bytes may leave the number of bytes or the number of characters as it should be.
func TestFlashOfLongCharacters(t *testing.T) {
	image := imagePages(patternFlash(0, 0, 3, 15))
	for _, c := range oddCharacters() {
		for place, page := range image {
			for _, at := range []int{0, 1, 7, len(page) - len(c)} {
				wantNoFlash(t, "the bytes of "+c, withPage(image, place, withBytes(page, at, c)), impl.ErrForm)
				wantNoFlash(t, "the character "+c, withPage(image, place, page[:at]+c+page[at+1:]), impl.ErrForm)
			}
		}
	}
}

func TestFlashOfSeveralMalformedPages(t *testing.T) {
	image := imagePages(patternFlash(0, 2))
	for place := range 16 {
		pages := withPage(withPage(image, place, "g"), 16, "2")
		wantNoFlash(t, fmt.Sprint("page ", place, " and the last one"), pages, impl.ErrForm)
		swapped := withPage(withPage(image, place, image[16]), 16, image[place])
		wantNoFlash(t, fmt.Sprint("page ", place, " in place of the last one"), swapped, impl.ErrForm)
	}
}

func wantSame(t *testing.T, what string, a, b impl.Flash, want bool, wantCode int) {
	t.Helper()
	same, code := impl.SameArray(a, b)
	back, codeBack := impl.SameArray(b, a)
	if same != want || back != want || code != wantCode || codeBack != wantCode {
		t.Error("SameArray with", what, "is", same, back, "not", want, "code", code, codeBack, "not", wantCode)
	}
}

func TestSameArrayOneDifference(t *testing.T) {
	for _, state := range []int{0, 3, 7} {
		f := patternFlash(state, 4, 15)
		wantSame(t, "itself", f, copyFlash(f), true, impl.OK)
		for other := range flashStates {
			wantSame(t, fmt.Sprint("state ", other), f, withState(f, other), true, impl.OK)
		}
		for at := range 256 {
			wantSame(t, fmt.Sprint("byte ", at), f, withCell(f, at, f.Cells[at]^128), false, impl.OK)
			wantSame(t, fmt.Sprint("byte and state ", at), f, withState(withCell(f, at, f.Cells[at]^1), 8-state), false, impl.OK)
		}
		for block := range 16 {
			other := copyFlash(f)
			other.Guard[block] = !other.Guard[block]
			wantSame(t, fmt.Sprint("block ", block), f, other, false, impl.OK)
			wantSame(t, fmt.Sprint("block and state ", block), f, withState(other, 8-state), false, impl.OK)
		}
	}
}

func TestSameArrayAnyTwo(t *testing.T) {
	for _, x := range allFlashes() {
		for _, y := range allFlashes() {
			what := x.name + " and " + y.name
			if !impl.FlashOK(x.flash) || !impl.FlashOK(y.flash) {
				wantSame(t, what, x.flash, y.flash, false, impl.ErrBad)
				continue
			}
			same := slices.Equal(x.flash.Cells, y.flash.Cells) && slices.Equal(x.flash.Guard, y.flash.Guard)
			wantSame(t, what, x.flash, y.flash, same, impl.OK)
		}
	}
}
