package tests

import (
	"slices"
	"testing"

	"loop.example/g00563/impl"
)

// checkPromise5 compares with SameArray too, because the later promises are stated with it.
func checkPromise5(t *testing.T, name string, f impl.Flash) {
	t.Helper()
	back := mustFlash(t, mustImage(t, f))
	if !equalFlashes(back, withState(f, impl.StRead)) {
		wantFlash(t, name, back, withState(f, impl.StRead), impl.OK)
	}
	if same, code := impl.SameArray(back, f); !same || code != impl.OK {
		t.Error("not the same bytes and protection:", name, "code", code)
	}
}

func TestPromise5ValidFlashes(t *testing.T) {
	for _, x := range validFlashes() {
		checkPromise5(t, x.name, x.flash)
	}
}

func TestPromise5EveryByteAtEachOffset(t *testing.T) {
	for shift := range 256 {
		f := patternFlash(shift%flashStates, shift%16)
		for at := range f.Cells {
			f.Cells[at] = (at + shift) % 256
		}
		checkPromise5(t, "shifted bytes", f)
	}
	for v := range 256 {
		for _, at := range []int{0, 1, 15, 16, 128, 254, 255} {
			checkPromise5(t, "one byte", withCell(erasedFlash(0), at, v))
		}
	}
}

func TestPromise5EveryProtection(t *testing.T) {
	for marks := range 1 << 16 {
		f := patternFlash(marks % flashStates)
		for block := range f.Guard {
			f.Guard[block] = marks>>block&1 == 1
		}
		pages := mustImage(t, f)
		if back := mustFlash(t, pages); !slices.Equal(back.Guard, f.Guard) {
			t.Fatal("protected", back.Guard, "not", f.Guard)
		}
	}
}

func TestPromise5AnyFlash(t *testing.T) {
	n := &noise{state: 8}
	for range 3000 {
		checkPromise5(t, "any flash", n.flash())
	}
}

func TestPromise5WhateverTheStateWas(t *testing.T) {
	n := &noise{state: 9}
	for range 100 {
		f := n.flash()
		first := mustImage(t, withState(f, impl.StRead))
		for state := range flashStates {
			checkPromise5(t, "each state", withState(f, state))
			if pages := mustImage(t, withState(f, state)); !slices.Equal(pages, first) {
				t.Fatal("the pages depend on state", state)
			}
		}
	}
}

func TestPromise5PagesOfTheirFlash(t *testing.T) {
	n := &noise{state: 10}
	for range 500 {
		pages := imagePages(n.flash())
		if again := mustImage(t, mustFlash(t, pages)); !slices.Equal(again, pages) {
			t.Fatalf("the pages %q become %q", pages, again)
		}
	}
}

// Different flashes have different pages, so that Commit writes each change.
func TestPromise5DifferentPages(t *testing.T) {
	f := patternFlash(0, 4)
	pages := mustImage(t, f)
	for at := range 256 {
		other := mustImage(t, withCell(f, at, f.Cells[at]^1))
		for place := range pages {
			if (other[place] != pages[place]) != (place == at/16) {
				t.Error("page", place, "after a change of byte", at)
			}
		}
	}
	for block := range 16 {
		flipped := copyFlash(f)
		flipped.Guard[block] = !flipped.Guard[block]
		other := mustImage(t, flipped)
		if !slices.Equal(other[:16], pages[:16]) || other[16] == pages[16] {
			t.Error("pages after a change of the protection of block", block)
		}
	}
}

func TestPromise5OnADisk(t *testing.T) {
	n := &noise{state: 11}
	d := mustFormat(t, mustImage(t, n.flash()))
	for range 200 {
		f := n.flash()
		d = mustCommit(t, d, mustImage(t, f), 1000)
		back := mustFlash(t, mustLoad(t, d))
		if !equalFlashes(back, withState(f, impl.StRead)) {
			t.Fatal("the flash on the disk is another one")
		}
	}
}
