package tests

import (
	"fmt"
	"slices"
	"strings"
	"testing"

	"loop.example/g00563/impl"
)

func linesAndBytes(list []impl.Instr) ([]string, []int) {
	var lines []string
	var bytes []int
	for _, x := range list {
		lines = append(lines, lineOf(x))
		bytes = append(bytes, codeOf(x)...)
	}
	return lines, bytes
}

func TestAssembleExample(t *testing.T) {
	wantAssembled(t, "the example", []string{"ldi 0 7", "st 0 16", "halt"}, []int{40, 7, 56, 16, 0, 8})
}

func TestAssembleOfNoLine(t *testing.T) {
	wantAssembled(t, "nil", nil, nil)
	wantAssembled(t, "no line", []string{}, nil)
}

func TestAssembleOfOneLine(t *testing.T) {
	for _, x := range edgeInstrs() {
		wantAssembled(t, lineOf(x), []string{lineOf(x)}, codeOf(x))
		wantAssembled(t, lineOf(x)+" with spaces", []string{"  " + strings.ReplaceAll(lineOf(x), " ", "   ") + " "}, codeOf(x))
	}
}

func TestAssembleOfManyLines(t *testing.T) {
	all := edgeInstrs()
	for first := 0; first+80 <= len(all); first += 10 {
		lines, bytes := linesAndBytes(all[first : first+80])
		wantAssembled(t, fmt.Sprint("80 lines from ", first), lines, bytes)
		slices.Reverse(lines)
		wantAssembled(t, "the same backwards", lines, backwards(all[first:first+80]))
	}
}

func backwards(list []impl.Instr) []int {
	reversed := slices.Clone(list)
	slices.Reverse(reversed)
	_, bytes := linesAndBytes(reversed)
	return bytes
}

func malformedLines() []string {
	return []string{"", " ", "go", "trap", "NOP", "nop 1", "nop\n", "inc", "ldi 4 1", "ldi 0 256", "ldi 00 1", "ldi 0 -1", "jp 4096", "bank 4", "swi", "\tnop", "nop; nop"}
}

func TestAssembleOfMalformedLines(t *testing.T) {
	for _, bad := range malformedLines() {
		for _, n := range []int{1, 2, 3, 60, 256} {
			for _, place := range []int{0, n / 2, n - 1} {
				lines := slices.Repeat([]string{"nop"}, n)
				lines[place] = bad
				wantNotAssembled(t, fmt.Sprintf("%q as line %d of %d", bad, place, n), lines, impl.ErrForm)
			}
		}
		wantNotAssembled(t, "two malformed lines", []string{bad, "nop", bad}, impl.ErrForm)
	}
}

// fullPrograms have exactly FlashSize bytes, from instructions of each length.
func fullPrograms() [][]string {
	return [][]string{
		slices.Repeat([]string{"nop"}, 256),
		slices.Repeat([]string{"ldi 0 0"}, 128),
		append(slices.Repeat([]string{"jp 512"}, 85), "ret"),
		append([]string{"bank 1", "swi 2"}, slices.Repeat([]string{"call 4095"}, 84)...),
		append(slices.Repeat([]string{"st 3 597", "inc 3"}, 63), "di", "ei", "bank 0"),
	}
}

func TestAssembleOfFlashSize(t *testing.T) {
	for i, lines := range fullPrograms() {
		list, code := impl.Assemble(lines)
		if len(list) != 256 || code != impl.OK {
			t.Error("full program", i, "has", len(list), "bytes, code", code)
		}
		wantNotAssembled(t, fmt.Sprint("full program ", i, " and one more byte"), append(slices.Clone(lines), "nop"), impl.ErrSize)
		wantNotAssembled(t, fmt.Sprint("one more byte and full program ", i), append([]string{"halt"}, lines...), impl.ErrSize)
		wantNotAssembled(t, fmt.Sprint("full program ", i, " and three more bytes"), append(slices.Clone(lines), "jz 0"), impl.ErrSize)
	}
	wantNotAssembled(t, "a last instruction of which one byte has no place", append(slices.Repeat([]string{"nop"}, 255), "swi 1"), impl.ErrSize)
	wantNotAssembled(t, "a last instruction of which two bytes have no place", append(slices.Repeat([]string{"nop"}, 255), "jp 0"), impl.ErrSize)
}

// A malformed line counts before the number of bytes, also behind the byte that is too many.
func TestAssembleOfMalformedLinesAndTooManyBytes(t *testing.T) {
	for _, bad := range malformedLines() {
		for _, n := range []int{257, 300, impl.MaxList} {
			for _, place := range []int{0, n / 2, 256, n - 1} {
				lines := slices.Repeat([]string{"jp 0"}, n)
				lines[place] = bad
				wantNotAssembled(t, fmt.Sprintf("%q as line %d of %d", bad, place, n), lines, impl.ErrForm)
			}
		}
	}
}

func TestAssembleOfMaxList(t *testing.T) {
	most := slices.Repeat([]string{"nop"}, impl.MaxList)
	wantNotAssembled(t, "MaxList lines", most, impl.ErrSize)
	wantNotAssembled(t, "one more line", append(most, "nop"), impl.ErrLong)
	wantNotAssembled(t, "one more line, a malformed one", append(most, "go"), impl.ErrLong)
	wantNotAssembled(t, "MaxList + 1 malformed lines", make([]string, impl.MaxList+1), impl.ErrLong)
	wantNotAssembled(t, "MaxList malformed lines", make([]string, impl.MaxList), impl.ErrForm)
}

func TestAssembleDoesNotLimitALine(t *testing.T) {
	gap := strings.Repeat(" ", impl.MaxText+1)
	wantAssembled(t, "lines with many spaces", []string{gap + "ldi 1 2", "jp" + gap + "513", "nop" + gap}, []int{41, 2, 120, 1, 2, 0})
	wantNotAssembled(t, "a line of spaces", []string{"nop", gap}, impl.ErrForm)
	wantNotAssembled(t, "a long line", []string{longText(impl.MaxText + 1)}, impl.ErrForm)
	wantNotAssembled(t, "a line of many words", []string{strings.Repeat("nop ", impl.MaxText)}, impl.ErrForm)
}
