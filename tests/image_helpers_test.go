package tests

import (
	"fmt"
	"slices"
	"strings"
	"testing"

	"loop.example/g00563/impl"
)

// imagePages forms the pages of a flash without the program.
func imagePages(f impl.Flash) []string {
	var pages []string
	for block := range flashBlocks {
		page := ""
		for _, v := range f.Cells[16*block : 16*block+16] {
			page += fmt.Sprintf("%02x", v)
		}
		pages = append(pages, page)
	}
	last := ""
	for _, protected := range f.Guard {
		last += map[bool]string{false: "0", true: "1"}[protected]
	}
	return append(pages, last)
}

func withPage(pages []string, place int, page string) []string {
	next := slices.Clone(pages)
	next[place] = page
	return next
}

func withBytes(page string, at int, bytes string) string {
	return page[:at] + bytes + page[at+len(bytes):]
}

func isHexDigit(b byte) bool {
	return strings.IndexByte("0123456789abcdef", b) >= 0
}

func isGuardDigit(b byte) bool {
	return b == '0' || b == '1'
}

func oneByte(b int) string {
	return string([]byte{byte(b)})
}

// oddCharacters have more than one byte; some of them end in the bits of a digit, or are digits elsewhere.
func oddCharacters() []string {
	return []string{"\u0130", "\u0131", "\u0161", "\u0231", "\u00e9", "\u0660", "\uff10", "\uff11", "\uff41", "\u2131", "\ufffd", "\U00010030", "\U0001d7ce"}
}

func mustImage(t *testing.T, f impl.Flash) []string {
	t.Helper()
	pages, code := impl.PagesOf(f)
	if code != impl.OK || len(pages) != 17 {
		t.Fatal("PagesOf:", len(pages), "pages, code", code)
	}
	return pages
}

func mustFlash(t *testing.T, pages []string) impl.Flash {
	t.Helper()
	f, code := impl.FlashOf(pages)
	if code != impl.OK || !impl.FlashOK(f) || f.State != impl.StRead {
		t.Fatal("FlashOf: state", f.State, "code", code)
	}
	return f
}

func wantNoFlash(t *testing.T, what string, pages []string, want int) {
	t.Helper()
	if f, code := impl.FlashOf(pages); code != want || !isZeroFlash(f) {
		t.Errorf("FlashOf of %s: code %d, not %d, with %d bytes", what, code, want, len(f.Cells))
	}
}

type namedPages struct {
	name  string
	pages []string
	code  int
}

// variousPages has pages for each code that FlashOf returns.
func variousPages() []namedPages {
	plain := imagePages(patternFlash(0, 3, 15))
	return []namedPages{
		{"pages of a flash", plain, impl.OK},
		{"pages of an erased flash", imagePages(erasedFlash(0)), impl.OK},
		{"no pages", nil, impl.ErrSize},
		{"16 pages", plain[:16], impl.ErrSize},
		{"18 pages", append(slices.Clone(plain), plain[16]), impl.ErrSize},
		{"MaxList pages", make([]string, impl.MaxList), impl.ErrSize},
		{"too many pages", make([]string, impl.MaxList+1), impl.ErrLong},
		{"a page of 101 bytes", withPage(plain, 9, strings.Repeat("0", 101)), impl.ErrSize},
		{"a page of MaxText + 1 bytes", withPage(plain, 9, longText(impl.MaxText+1)), impl.ErrSize},
		{"17 empty pages", make([]string, 17), impl.ErrForm},
		{"an empty page", withPage(plain, 0, ""), impl.ErrForm},
		{"a page of 100 bytes", withPage(plain, 9, strings.Repeat("0", 100)), impl.ErrForm},
		{"another digit", withPage(plain, 15, withBytes(plain[15], 31, "g")), impl.ErrForm},
		{"another digit in the last page", withPage(plain, 16, "0000000000000002"), impl.ErrForm},
		{"pages that are no image", plainPages(), impl.ErrForm},
	}
}
