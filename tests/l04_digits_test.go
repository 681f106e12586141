package tests

import (
	"fmt"
	"testing"

	"loop.example/g00563/impl"
)

func wantNoByte(t *testing.T, text string, want int) {
	t.Helper()
	if n, code := impl.ByteHex(text); n != 0 || code != want {
		t.Errorf("ByteHex of %.20q is %d, code %d, not %d", text, n, code, want)
	}
}

func TestHexExamples(t *testing.T) {
	if text, code := impl.HexByte(10); text != "0a" || code != impl.OK {
		t.Error("HexByte of 10 is", text, "code", code)
	}
	wantNoByte(t, "0A", impl.ErrForm)
}

func TestHexByteThereAndBack(t *testing.T) {
	for n := range 256 {
		want := fmt.Sprintf("%02x", n)
		text, code := impl.HexByte(n)
		if text != want || code != impl.OK {
			t.Error("HexByte of", n, "is", text, "code", code)
		}
		if back, code := impl.ByteHex(want); back != n || code != impl.OK {
			t.Error("ByteHex of", want, "is", back, "code", code)
		}
	}
}

func TestHexByteOutOfRange(t *testing.T) {
	for _, n := range farNumbers() {
		if text, code := impl.HexByte(n); text != "" || code != impl.ErrRange {
			t.Errorf("HexByte of %d is %q, code %d", n, text, code)
		}
	}
}

// Among all strings of two bytes are capital digits, signs, blanks, the bytes beside the digits' ranges and bytes over 127, in either place.
func TestByteHexEveryPairOfBytes(t *testing.T) {
	for a := range 256 {
		for b := range 256 {
			text := string([]byte{byte(a), byte(b)})
			if !isHexDigit(text[0]) || !isHexDigit(text[1]) {
				wantNoByte(t, text, impl.ErrForm)
				continue
			}
			back, code := impl.ByteHex(text)
			if code != impl.OK || fmt.Sprintf("%02x", back) != text {
				t.Errorf("ByteHex of %q is %d, code %d", text, back, code)
			}
		}
	}
}

func TestByteHexNamedStrings(t *testing.T) {
	beside := []string{"/", ":", "`", "g", "A", "F", "G", "@", "+", "-", " ", "\t", "\n", "_", ".", "x", "\x00", "\x7f", "\x80", "\xb0", "\xff"}
	for _, b := range beside {
		for _, digit := range []string{"0", "1", "9", "a", "f", b} {
			wantNoByte(t, b+digit, impl.ErrForm)
			wantNoByte(t, digit+b, impl.ErrForm)
		}
	}
	for _, text := range []string{"FF", "Ff", "fF", "AB", "0X", "0x", "-1", "+1", " 1", "1 ", "é", "1_"} {
		wantNoByte(t, text, impl.ErrForm)
	}
}

func TestByteHexOtherLengths(t *testing.T) {
	wantNoByte(t, "", impl.ErrForm)
	for b := range 256 {
		wantNoByte(t, oneByte(b), impl.ErrForm)
		for _, pair := range []string{"00", "0a", "ff", "10"} {
			wantNoByte(t, oneByte(b)+pair, impl.ErrForm)
			wantNoByte(t, pair+oneByte(b), impl.ErrForm)
			wantNoByte(t, pair[:1]+oneByte(b)+pair[1:], impl.ErrForm)
		}
	}
	for _, text := range []string{"0000", "0x0a", "00000000000000000a", longText(100), longText(impl.MaxText)} {
		wantNoByte(t, text, impl.ErrForm)
	}
}

func TestByteHexLongCharacters(t *testing.T) {
	for _, c := range oddCharacters() {
		for _, text := range []string{c, c + c, "0" + c, c + "0", "00" + c, c + "ff"} {
			wantNoByte(t, text, impl.ErrForm)
		}
	}
}

func TestByteHexTooLong(t *testing.T) {
	wantNoByte(t, longText(impl.MaxText+1), impl.ErrLong)
	wantNoByte(t, longText(2*impl.MaxText), impl.ErrLong)
}
