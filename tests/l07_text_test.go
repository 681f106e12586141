package tests

import (
	"fmt"
	"strings"
	"testing"

	"loop.example/g00563/impl"
)

func TestInstrTextExamples(t *testing.T) {
	wantInstrRead(t, "ldi 2 200", impl.Instr{Op: impl.OpLdi, Reg: 2, Arg: 200})
	wantInstrRead(t, "st 1 597", impl.Instr{Op: impl.OpSt, Reg: 1, Arg: 597})
	wantInstrRead(t, "call 512", impl.Instr{Op: impl.OpCall, Arg: 512})
	for _, line := range []string{"ldi 00 1", "trap", "nop 1"} {
		wantNotRead(t, line, impl.ErrForm)
	}
}

func TestInstrText(t *testing.T) {
	for _, x := range edgeInstrs() {
		if text, code := impl.InstrText(x); text != lineOf(x) || code != impl.OK {
			t.Errorf("InstrText of %v is %q, code %d", x, text, code)
		}
	}
}

// A register and a number that are 0 are part of the text where the operation has them.
func TestInstrTextOfZeros(t *testing.T) {
	want := []string{"nop", "halt", "reti", "ei", "di", "ldi 0 0", "ld 0 0", "st 0 0", "inc 0", "dec 0", "add 0", "sub 0",
		"and 0", "or 0", "xor 0", "jp 0", "jz 0", "jnz 0", "call 0", "ret", "swi 0", "bank 0"}
	for op, line := range want {
		if text, code := impl.InstrText(impl.Instr{Op: op}); text != line || code != impl.OK {
			t.Errorf("InstrText of operation %d is %q, code %d", op, text, code)
		}
		wantInstrRead(t, line, impl.Instr{Op: op})
	}
}

func TestInstrTextOfInvalidInstructions(t *testing.T) {
	for _, x := range invalidInstrs() {
		if text, code := impl.InstrText(x.instr); text != "" || code != impl.ErrBad {
			t.Errorf("InstrText of %s is %q, code %d", x.name, text, code)
		}
	}
}

func TestReadInstrOfEachOperation(t *testing.T) {
	for _, x := range edgeInstrs() {
		wantInstrRead(t, lineOf(x), x)
	}
}

func TestReadInstrWithAdditionalSpaces(t *testing.T) {
	for _, x := range edgeInstrs() {
		line := lineOf(x)
		for _, n := range []int{1, 2, 7} {
			gap := strings.Repeat(" ", n)
			wantInstrRead(t, gap+line, x)
			wantInstrRead(t, line+gap, x)
			wantInstrRead(t, strings.ReplaceAll(line, " ", gap), x)
			wantInstrRead(t, gap+gap+strings.ReplaceAll(line, " ", gap+" ")+gap, x)
		}
	}
}

func TestReadInstrWithoutAWord(t *testing.T) {
	for _, n := range []int{0, 1, 2, 100, impl.MaxText} {
		wantNotRead(t, strings.Repeat(" ", n), impl.ErrForm)
	}
}

func TestReadInstrOfUnknownWords(t *testing.T) {
	for _, word := range []string{"trap", "go", "n", "no", "nopp", "xnop", "l", "lda", "ld1", "jpz", "0", "1", "-", "#", "\x00", "nop\x00", "é", longText(1000)} {
		for _, rest := range []string{"", " 0", " 0 0", " 1 1"} {
			wantNotRead(t, word+rest, impl.ErrForm)
		}
	}
}

func TestReadInstrOfChangedWords(t *testing.T) {
	for _, x := range edgeInstrs() {
		line, word := lineOf(x), opRows()[x.Op].word
		wantNotRead(t, strings.ToUpper(line), impl.ErrForm)
		wantNotRead(t, strings.ToUpper(word[:1])+line[1:], impl.ErrForm)
		wantNotRead(t, word[:1]+" "+line[1:], impl.ErrForm)
		wantNotRead(t, strings.TrimPrefix(line, word), impl.ErrForm)
		wantNotRead(t, "_"+line, impl.ErrForm)
		if len(line) > len(word) {
			wantNotRead(t, strings.ReplaceAll(line, " ", ""), impl.ErrForm)
			wantNotRead(t, strings.ReplaceAll(line, " ", ","), impl.ErrForm)
		}
	}
}

func TestReadInstrWithMissingOrAdditionalNumbers(t *testing.T) {
	for _, x := range edgeInstrs() {
		line := lineOf(x)
		for _, more := range []string{" 0", " 1", " 3 0", " x", " nop", " -", " ,", "  0 ", strings.Repeat(" 0", 1000)} {
			wantNotRead(t, line+more, impl.ErrForm)
		}
		if last := strings.LastIndex(line, " "); last >= 0 {
			wantNotRead(t, line[:last], impl.ErrForm)
			wantNotRead(t, line[:last]+"   ", impl.ErrForm)
		}
	}
	for _, row := range opRows() {
		if row.reg || row.arg >= 0 {
			wantNotRead(t, row.word, impl.ErrForm)
		}
		for n := range 6 {
			line := row.word + strings.Repeat(" 0", n)
			_, want := readLine(line)
			if _, code := impl.ReadInstr(line); (code == impl.OK) != want {
				t.Error("ReadInstr of", line, "code", code)
			}
		}
	}
}

// malformedNumbers are no texts of integers that are not negative, or they are far out of every range.
func malformedNumbers() []string {
	list := []string{"-0", "-1", "+0", "+1", "00", "01", "007", "000000000000000001", "0x1", "0b1", "1_0", "1.", "1.0", ".1", "1e0",
		"x", "a", "1a", "a1", "-", "+", "--1", "1-", "\xb1", "\u0661", "\uff11", "1\x00", "\x001", "0,", "'1'"}
	for _, n := range []string{"4096", "5000", "65536", "65537", "4294967296", "4294967297", "9223372036854775807", "9223372036854775808",
		"18446744073709551616", "18446744073709551617", "999999999999999999", "1000000000000000000", "9999999999999999999", "340282366920938463463374607431768211457"} {
		list = append(list, n, "-"+n)
	}
	return append(list, "1"+strings.Repeat("0", 64), strings.Repeat("0", 64), strings.Repeat("9", 5000), longText(1000))
}

func TestReadInstrOfMalformedNumbers(t *testing.T) {
	for _, number := range malformedNumbers() {
		for _, row := range opRows() {
			wantNotRead(t, row.word+" "+number, impl.ErrForm)
			wantNotRead(t, row.word+" "+number+" 1", impl.ErrForm)
			wantNotRead(t, row.word+" 1 "+number, impl.ErrForm)
			wantNotRead(t, row.word+" "+number+" "+number, impl.ErrForm)
		}
	}
}

func TestReadInstrOfNumbersBeyondTheirRange(t *testing.T) {
	for _, row := range opRows() {
		for _, beyond := range []int{row.arg + 1, row.arg + 2, 2*row.arg + 2, row.arg + 10000} {
			switch {
			case row.reg && row.arg >= 0:
				wantNotRead(t, fmt.Sprint(row.word, " 3 ", beyond), impl.ErrForm)
			case row.arg >= 0:
				wantNotRead(t, fmt.Sprint(row.word, " ", beyond), impl.ErrForm)
			}
		}
		for _, reg := range []int{4, 5, 7, 8, 10, 256, 260, 4096} {
			wantNotRead(t, fmt.Sprint(row.word, " ", reg, " 0"), impl.ErrForm)
			if row.arg < 0 {
				wantNotRead(t, fmt.Sprint(row.word, " ", reg), impl.ErrForm)
			}
		}
	}
}

// Only the byte 32 separates words; every other byte belongs to one.
func TestReadInstrOfOtherBytes(t *testing.T) {
	for b := range 256 {
		if b == ' ' {
			continue
		}
		other := oneByte(b)
		for _, line := range []string{other, other + "nop", "nop" + other, "nop " + other, other + " nop", "ldi" + other + "1 2", "ldi 1" + other + "2", "ldi " + other + "1 2", "ldi 1 2 " + other, "jp" + other + "1"} {
			wantNotRead(t, line, impl.ErrForm)
		}
	}
	for _, space := range []string{"\t", "\n", "\r", "\v", "\f", "\r\n", "\u00a0", "\u0085", "\u2003", "\u3000", "\ufeff"} {
		for _, line := range []string{space, "nop" + space, space + "nop", "ldi" + space + "1" + space + "2", "ldi 1" + space + "2", "ldi 1 2" + space, " " + space + " "} {
			wantNotRead(t, line, impl.ErrForm)
		}
	}
}

// Every byte of a text is replaced, removed and put in front of once.
func TestReadInstrOfTextsNearby(t *testing.T) {
	for _, line := range []string{"nop", "reti", "ldi 2 200", "ld 0 10", "st 1 597", "inc 3", "jp 4095", "jnz 0", "call 512", "swi 3", "bank 2"} {
		var near []string
		for i := 0; i <= len(line); i++ {
			for b := range 256 {
				near = append(near, line[:i]+oneByte(b)+line[i:])
				if i < len(line) {
					near = append(near, line[:i]+oneByte(b)+line[i+1:])
				}
			}
			near = append(near, line[:i], line[i:], line[:i]+line[min(i+1, len(line)):])
		}
		for _, text := range near {
			if want, ok := readLine(text); ok {
				wantInstrRead(t, text, want)
			} else {
				wantNotRead(t, text, impl.ErrForm)
			}
		}
	}
}

func TestReadInstrOfMaxText(t *testing.T) {
	for _, x := range edgeInstrs() {
		line := lineOf(x)
		gap := strings.Repeat(" ", impl.MaxText-len(line))
		wantInstrRead(t, gap+line, x)
		wantInstrRead(t, line+gap, x)
		wantInstrRead(t, strings.Replace(line, " ", gap+" ", 1), x)
		wantNotRead(t, gap+" "+line, impl.ErrLong)
		wantNotRead(t, line+gap+" ", impl.ErrLong)
		wantNotRead(t, line+strings.Repeat(" ", impl.MaxText), impl.ErrLong)
	}
	wantNotRead(t, longText(impl.MaxText), impl.ErrForm)
	wantNotRead(t, longText(impl.MaxText+1), impl.ErrLong)
	wantNotRead(t, strings.Repeat(" ", impl.MaxText+1), impl.ErrLong)
	wantNotRead(t, "nop"+strings.Repeat(" 0", impl.MaxText/2-2), impl.ErrForm)
	wantNotRead(t, strings.Repeat("0 ", impl.MaxText), impl.ErrLong)
}
