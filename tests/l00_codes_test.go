package tests

import (
	"math"
	"strings"
	"testing"

	"loop.example/g00563/impl"
)

func TestChapter1Examples(t *testing.T) {
	if got := impl.CodeWord(impl.ErrFault); got != "fault" {
		t.Errorf("CodeWord(ErrFault) = %q", got)
	}
	if got := impl.CodeOf("root"); got != impl.ErrRoot {
		t.Errorf("CodeOf(root) = %d", got)
	}
}

func TestLimits(t *testing.T) {
	if impl.MaxText != 65536 || impl.MaxList != 4096 || impl.MaxName != 40 {
		t.Error("limits", impl.MaxText, impl.MaxList, impl.MaxName)
	}
}

func TestNameOK(t *testing.T) {
	cases := []struct {
		text string
		want bool
	}{
		{"", false},
		{"a", true},
		{"_", true},
		{"7", false},
		{"7a", false},
		{"a7", true},
		{"Az_09", true},
		{"__", true},
		{strings.Repeat("x", impl.MaxName), true},
		{strings.Repeat("x", impl.MaxName+1), false},
		{"x" + strings.Repeat("9", impl.MaxName-1), true},
		{"x" + strings.Repeat("9", impl.MaxName), false},
		{strings.Repeat("x", impl.MaxName-1) + "-", false},
		{strings.Repeat("x", impl.MaxText), false},
		{strings.Repeat("x", impl.MaxText+1), false},
		{"a b", false},
		{" a", false},
		{"a ", false},
		{"a\x00", false},
		{"é", false},
		{"aé", false},
		{"a\xff", false},
	}
	for _, c := range cases {
		if got := impl.NameOK(c.text); got != c.want {
			t.Errorf("NameOK of %d bytes %.50q = %v", len(c.text), c.text, got)
		}
	}
}

func TestNameOKEveryByte(t *testing.T) {
	const letters = "ABCDEFGHIJKLMNOPQRSTUVWXYZ_abcdefghijklmnopqrstuvwxyz"
	const digits = "0123456789"
	for b := 0; b < 256; b++ {
		one := string([]byte{byte(b)})
		isLetter := strings.Contains(letters, one)
		isDigit := strings.Contains(digits, one)
		if got := impl.NameOK(one); got != isLetter {
			t.Errorf("NameOK(%q) = %v", one, got)
		}
		for _, text := range []string{"q" + one, "q" + one + "q", "_9" + one} {
			if got := impl.NameOK(text); got != (isLetter || isDigit) {
				t.Errorf("NameOK(%q) = %v", text, got)
			}
		}
	}
}

func TestCodeTable(t *testing.T) {
	rows := []struct {
		number, constant int
		word             string
	}{
		{0, impl.OK, "ok"},
		{1, impl.ErrBad, "bad"},
		{2, impl.ErrLong, "long"},
		{3, impl.ErrForm, "form"},
		{4, impl.ErrRange, "range"},
		{5, impl.ErrNone, "none"},
		{6, impl.ErrMany, "many"},
		{7, impl.ErrFull, "full"},
		{8, impl.ErrSize, "size"},
		{9, impl.ErrRoot, "root"},
		{10, impl.ErrFault, "fault"},
		{11, impl.ErrGuard, "guard"},
		{12, impl.ErrOff, "off"},
		{13, impl.ErrOn, "on"},
		{14, impl.ErrTrap, "trap"},
		{15, impl.ErrMode, "mode"},
		{16, impl.ErrBank, "bank"},
		{17, impl.ErrCall, "call"},
		{18, impl.ErrTorn, "torn"},
		{19, impl.ErrLevel, "level"},
	}
	for _, r := range rows {
		if r.constant != r.number {
			t.Errorf("the constant of %s is %d, not %d", r.word, r.constant, r.number)
		}
		if got := impl.CodeWord(r.number); got != r.word {
			t.Errorf("CodeWord(%d) = %q, not %q", r.number, got, r.word)
		}
		if got := impl.CodeOf(r.word); got != r.number {
			t.Errorf("CodeOf(%q) = %d, not %d", r.word, got, r.number)
		}
	}
}

func TestCodesOutsideTheTable(t *testing.T) {
	for _, n := range []int{-1, -2, -20, 20, 21, 255, 256, math.MinInt, math.MaxInt} {
		if got := impl.CodeWord(n); got != "" {
			t.Errorf("CodeWord(%d) = %q", n, got)
		}
	}
	words := []string{
		"", " ", "OK", "Ok", "ok ", " ok", "ok\x00", "o", "okay", "ErrBad", "levels", "leve", "0", "-1", "success",
		strings.Repeat("ok", impl.MaxText/2),
		"ok" + strings.Repeat(" ", impl.MaxText),
		strings.Repeat("o", impl.MaxText+1),
		strings.Repeat("\x00", 2*impl.MaxText),
	}
	for _, w := range words {
		if got := impl.CodeOf(w); got != -1 {
			t.Errorf("CodeOf of %d bytes %.20q = %d", len(w), w, got)
		}
	}
}
