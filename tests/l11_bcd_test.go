package tests

import (
	"strconv"
	"testing"

	"loop.example/g00563/impl"
)

func TestBcdByHand(t *testing.T) {
	for _, c := range [][2]int{{0, 0}, {1, 1}, {9, 9}, {10, 16}, {11, 17}, {19, 25}, {20, 32}, {59, 89}, {90, 144}, {98, 152}, {99, 153}} {
		wantToBcd(t, c[0], c[1], impl.OK)
		wantFromBcd(t, c[1], c[0], impl.OK)
	}
}

func TestToBcdOfEveryNumber(t *testing.T) {
	for n, text := range bcdTexts() {
		want, err := strconv.ParseInt(text, 16, 64)
		if err != nil {
			t.Fatal(err)
		}
		wantToBcd(t, n, int(want), impl.OK)
	}
}

func TestToBcdOutOfRange(t *testing.T) {
	for _, n := range append(beyond(99), -153, -16, 153, 159, 255, 256, 257, 1<<32+10) {
		wantToBcd(t, n, 0, impl.ErrRange)
	}
}

// A byte is a binary-coded decimal if its two hexadecimal digits are decimal ones.
func TestFromBcdOfEveryByte(t *testing.T) {
	for n := range 256 {
		text := strconv.FormatInt(int64(n), 16)
		if want, err := strconv.Atoi(text); err == nil {
			wantFromBcd(t, n, want, impl.OK)
		} else {
			wantFromBcd(t, n, 0, impl.ErrForm)
		}
	}
}

func TestFromBcdOfOtherDigits(t *testing.T) {
	for high := range 16 {
		for low := range 16 {
			if high > 9 || low > 9 {
				wantFromBcd(t, 16*high+low, 0, impl.ErrForm)
			}
		}
	}
}

func TestFromBcdOutOfRange(t *testing.T) {
	for _, n := range append(farNumbers(), beyond(255)...) {
		wantFromBcd(t, n, 0, impl.ErrRange)
	}
}
