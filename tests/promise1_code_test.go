package tests

import (
	"fmt"
	"slices"
	"strings"
	"testing"

	"loop.example/g00563/impl"
)

func someInstrs() []impl.Instr {
	list := edgeInstrs()
	for _, x := range invalidInstrs() {
		list = append(list, x.instr)
	}
	return list
}

// variousLines has lines for each code that Assemble returns.
func variousLines() [][]string {
	lists := [][]string{
		{"nop"},
		{"ldi 0 7", "st 0 16", "halt"},
		{"ldi 0 7", "trap"},
		{"", "nop"},
		slices.Repeat([]string{"nop"}, 257),
		slices.Repeat([]string{"nop"}, impl.MaxList),
		slices.Repeat([]string{"nop"}, impl.MaxList+1),
		{strings.Repeat(" ", impl.MaxText) + "jp 513"},
	}
	return append(lists, fullPrograms()...)
}

func variousTexts() []string {
	texts := append(malformedLines(), malformedNumbers()...)
	for _, x := range edgeInstrs() {
		texts = append(texts, lineOf(x), " "+lineOf(x)+"  ")
	}
	return append(texts, longText(impl.MaxText), longText(impl.MaxText+1))
}

func TestPromise1CodeLinesStay(t *testing.T) {
	for _, lines := range variousLines() {
		list := spareTexts(lines)
		bytes, _ := impl.Assemble(list)
		scribbleNumbers(bytes)
		if !textsStay(list, lines) {
			t.Error("argument changed by Assemble of", len(lines), "lines")
		}
	}
}

func TestPromise1CodeResultsAreNewMemory(t *testing.T) {
	for _, x := range edgeInstrs() {
		first, second := mustEncode(t, x), mustEncode(t, x)
		scribbleNumbers(first)
		if !slices.Equal(second, codeOf(x)) || !slices.Equal(mustEncode(t, x), codeOf(x)) {
			t.Error("two results of Encode share memory:", x)
		}
	}
	for _, lines := range variousLines() {
		first, _ := impl.Assemble(lines)
		second, _ := impl.Assemble(lines)
		want := slices.Clone(second)
		scribbleNumbers(first)
		third, _ := impl.Assemble(lines)
		if !slices.Equal(second, want) || !slices.Equal(third, want) {
			t.Error("two results of Assemble share memory:", len(lines), "lines")
		}
	}
}

// instrResults is all that the functions return for one instruction.
func instrResults(x impl.Instr) string {
	list, code := impl.Encode(x)
	text, codeText := impl.InstrText(x)
	length, codeLength := impl.LengthOf(x.Op)
	cycles, codeCycles := impl.CyclesOf(x.Op)
	return fmt.Sprint(impl.InstrOK(x), list, code, text, codeText, length, codeLength, cycles, codeCycles)
}

func TestPromise1CodeEqualInstructionsEqualResults(t *testing.T) {
	all := someInstrs()
	var first []string
	for _, x := range all {
		first = append(first, instrResults(x))
	}
	for i := len(all) - 1; i >= 0; i-- {
		if again := instrResults(all[i]); again != first[i] {
			t.Error("the second call differs:", all[i], again, "and not", first[i])
		}
	}
}

func TestPromise1CodeEqualTextsEqualResults(t *testing.T) {
	texts := variousTexts()
	read := func(text string) string {
		x, code := impl.ReadInstr(strings.Clone(text))
		return fmt.Sprint(x, code)
	}
	var first []string
	for _, text := range texts {
		first = append(first, read(text))
	}
	for i := len(texts) - 1; i >= 0; i-- {
		impl.ReadInstr(texts[(i*7+3)%len(texts)])
		if again := read(texts[i]); again != first[i] {
			t.Errorf("the second ReadInstr of %.60q is %s and not %s", texts[i], again, first[i])
		}
	}
}

func TestPromise1CodeEqualBytesEqualResults(t *testing.T) {
	for a := -1; a <= 256; a++ {
		for _, b := range []int{-1, 0, 3, 4, 255, 256} {
			for _, c := range []int{-1, 0, 15, 16, 255, 256} {
				x, code := impl.Decode(a, b, c)
				impl.Decode(c, a, b)
				impl.Decode(40, 7, 0)
				if again, codeAgain := impl.Decode(a, b, c); again != x || codeAgain != code {
					t.Error("the second Decode differs:", a, b, c)
				}
			}
		}
	}
}

func TestPromise1CodeEqualLinesEqualResults(t *testing.T) {
	for _, lines := range variousLines() {
		first, code := impl.Assemble(lines)
		for _, other := range variousLines() {
			impl.Assemble(other)
		}
		again, codeAgain := impl.Assemble(spareTexts(lines))
		if code != codeAgain || !slices.Equal(first, again) {
			t.Error("the second Assemble differs:", len(lines), "lines")
		}
	}
}

func TestPromise1CodeEmptyAndNilAreTheSame(t *testing.T) {
	for _, lines := range [][]string{nil, {}, spareTexts(nil)} {
		wantAssembled(t, "no line", lines, nil)
	}
}
