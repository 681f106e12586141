package tests

import (
	"slices"
	"testing"

	"loop.example/g00563/impl"
)

func TestPromise1ImageFlashStays(t *testing.T) {
	other := patternFlash(impl.StErase, 1)
	for _, x := range allFlashes() {
		f, second := spareFlash(x.flash), spareFlash(other)
		pages, _ := impl.PagesOf(f)
		scribbleTexts(pages)
		impl.SameArray(f, second)
		impl.SameArray(second, f)
		impl.SameArray(f, f)
		if !flashStays(f, x.flash) || !flashStays(second, other) {
			t.Error("argument changed by PagesOf or SameArray of", x.name)
		}
	}
}

func TestPromise1ImagePagesStay(t *testing.T) {
	for _, p := range variousPages() {
		pages := spareTexts(p.pages)
		f, _ := impl.FlashOf(pages)
		scribbleFlash(f)
		if !textsStay(pages, p.pages) {
			t.Error("argument changed by FlashOf of", p.name)
		}
	}
}

func TestPromise1ImageResultsAreNewMemory(t *testing.T) {
	for _, x := range validFlashes() {
		f := spareFlash(x.flash)
		pages := mustImage(t, f)
		want := slices.Clone(pages)
		second := mustImage(t, f)
		scribbleTexts(second)
		scribbleFlash(f)
		if !slices.Equal(pages, want) {
			t.Error("the pages share memory with the flash or with other pages:", x.name)
		}
		first, again := mustFlash(t, pages), mustFlash(t, pages)
		wantFirst := copyFlash(first)
		scribbleFlash(again)
		scribbleTexts(pages)
		if !equalFlashes(first, wantFirst) {
			t.Error("the flash shares memory with the pages or with another flash:", x.name)
		}
	}
}

func TestPromise1ImageEqualCallsEqualResults(t *testing.T) {
	for _, x := range allFlashes() {
		pages, code := impl.PagesOf(x.flash)
		same, codeSame := impl.SameArray(x.flash, patternFlash(0))
		for _, other := range validFlashes() {
			impl.PagesOf(other.flash)
			impl.SameArray(other.flash, x.flash)
		}
		again, codeAgain := impl.PagesOf(spareFlash(x.flash))
		if code != codeAgain || !slices.Equal(pages, again) {
			t.Error("the second PagesOf differs:", x.name)
		}
		if s, c := impl.SameArray(spareFlash(x.flash), spareFlash(patternFlash(0))); s != same || c != codeSame {
			t.Error("the second SameArray differs:", x.name)
		}
	}
	for _, p := range variousPages() {
		f, code := impl.FlashOf(p.pages)
		for _, other := range variousPages() {
			impl.FlashOf(other.pages)
		}
		again, codeAgain := impl.FlashOf(spareTexts(p.pages))
		if code != codeAgain || !equalFlashes(f, again) {
			t.Error("the second FlashOf differs:", p.name)
		}
	}
}

func TestPromise1DigitsDoNotDependOnEarlierCalls(t *testing.T) {
	for n := -3; n < 260; n++ {
		text, code := impl.HexByte(n)
		back, codeBack := impl.ByteHex(text)
		for _, other := range []string{"", "g0", "ff", "0f0", longText(impl.MaxText + 1)} {
			impl.ByteHex(other)
			impl.HexByte(len(other))
		}
		if again, c := impl.HexByte(n); again != text || c != code {
			t.Error("the second HexByte differs:", n)
		}
		if again, c := impl.ByteHex(text); again != back || c != codeBack {
			t.Error("the second ByteHex differs:", text)
		}
	}
}

func TestPromise1ImageEmptyAndNilAreTheSame(t *testing.T) {
	for _, pages := range [][]string{nil, {}} {
		wantNoFlash(t, "no pages", pages, impl.ErrSize)
	}
	empty := impl.Flash{Cells: []int{}, Guard: []bool{}}
	for _, f := range []impl.Flash{{}, empty} {
		if pages, code := impl.PagesOf(f); len(pages) != 0 || code != impl.ErrBad {
			t.Error("PagesOf without bytes and blocks: code", code)
		}
		wantSame(t, "a flash without bytes and blocks", f, erasedFlash(0), false, impl.ErrBad)
		wantSame(t, "two flashes without bytes and blocks", f, empty, false, impl.ErrBad)
	}
}
