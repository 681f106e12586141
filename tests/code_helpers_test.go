package tests

import (
	"fmt"
	"math"
	"regexp"
	"slices"
	"strings"
	"testing"

	"loop.example/g00563/impl"
)

const (
	opCount = 22
	trapOp  = 22
)

// opRow is an operation as the text of chapter 8 has it; arg is the greatest Arg, and -1 where there is none.
type opRow struct {
	word           string
	reg            bool
	arg            int
	length, cycles int
}

func opRows() []opRow {
	return []opRow{
		{"nop", false, -1, 1, 2},
		{"halt", false, -1, 1, 2},
		{"reti", false, -1, 1, 8},
		{"ei", false, -1, 1, 2},
		{"di", false, -1, 1, 2},
		{"ldi", true, 255, 2, 4},
		{"ld", true, 4095, 3, 6},
		{"st", true, 4095, 3, 6},
		{"inc", true, -1, 1, 2},
		{"dec", true, -1, 1, 2},
		{"add", true, -1, 1, 2},
		{"sub", true, -1, 1, 2},
		{"and", true, -1, 1, 2},
		{"or", true, -1, 1, 2},
		{"xor", true, -1, 1, 2},
		{"jp", false, 4095, 3, 6},
		{"jz", false, 4095, 3, 6},
		{"jnz", false, 4095, 3, 6},
		{"call", false, 4095, 3, 8},
		{"ret", false, -1, 1, 8},
		{"swi", false, 255, 2, 12},
		{"bank", false, 3, 2, 4},
	}
}

func (r opRow) regs() []int {
	if r.reg {
		return []int{0, 1, 2, 3}
	}
	return []int{0}
}

// edgeArgs are the ends of the range of Arg and numbers with different bytes in between.
func (r opRow) edgeArgs() []int {
	switch r.arg {
	case 3:
		return []int{0, 1, 2, 3}
	case 255:
		return []int{0, 1, 9, 10, 99, 100, 127, 128, 200, 254, 255}
	case 4095:
		return []int{0, 1, 9, 255, 256, 257, 511, 512, 597, 999, 1000, 3840, 4000, 4094, 4095}
	}
	return []int{0}
}

func (r opRow) everyArg() []int {
	if r.arg < 0 {
		return []int{0}
	}
	return countFrom(0, r.arg+1)
}

func instrsWith(args func(opRow) []int) []impl.Instr {
	var list []impl.Instr
	for op, row := range opRows() {
		for _, reg := range row.regs() {
			for _, arg := range args(row) {
				list = append(list, impl.Instr{Op: op, Reg: reg, Arg: arg})
			}
		}
	}
	return list
}

func edgeInstrs() []impl.Instr {
	return instrsWith(opRow.edgeArgs)
}

func everyInstr() []impl.Instr {
	return instrsWith(opRow.everyArg)
}

func isInstr(x impl.Instr) bool {
	if x.Op < 0 || x.Op >= opCount {
		return false
	}
	row := opRows()[x.Op]
	return slices.Contains(row.regs(), x.Reg) && x.Arg >= 0 && x.Arg <= max(row.arg, 0)
}

// wrongOps are no operations, not even OpTrap; some would be one if only their last bits counted.
func wrongOps() []int {
	return append([]int{-2, 23, 24, 31, 32, 1<<32 + 5}, farNumbers()...)
}

func wrongRegs() []int {
	return append([]int{4, 5, 7, 8, 1<<32 + 2}, farNumbers()...)
}

// wrongArgs are out of the range of every operation.
func wrongArgs() []int {
	return []int{-1, -3, -255, -256, -4095, -4096, 4096, 4097, 8191, 1 << 16, 1<<32 + 1, math.MinInt, math.MaxInt}
}

type namedInstr struct {
	name  string
	instr impl.Instr
}

func invalidInstrs() []namedInstr {
	var list []namedInstr
	for _, op := range append(wrongOps(), trapOp) {
		list = append(list, namedInstr{fmt.Sprint("operation ", op), impl.Instr{Op: op}})
		list = append(list, namedInstr{fmt.Sprint("operation ", op, " with numbers"), impl.Instr{Op: op, Reg: 1, Arg: 2}})
	}
	for op, row := range opRows() {
		for _, arg := range []int{0, max(row.arg, 0)} {
			for _, reg := range wrongRegs() {
				list = append(list, namedInstr{fmt.Sprint(row.word, " with register ", reg), impl.Instr{Op: op, Reg: reg, Arg: arg}})
			}
		}
		for _, reg := range row.regs() {
			for _, arg := range append(wrongArgs(), max(row.arg, 0)+1) {
				list = append(list, namedInstr{fmt.Sprint(row.word, " with Arg ", arg), impl.Instr{Op: op, Reg: reg, Arg: arg}})
			}
		}
		if !row.reg {
			for reg := 1; reg <= 3; reg++ {
				list = append(list, namedInstr{fmt.Sprint(row.word, " has no register ", reg), impl.Instr{Op: op, Reg: reg}})
			}
		}
	}
	return list
}

// codeOf forms the bytes of an instruction without the program.
func codeOf(x impl.Instr) []int {
	all := []int{8*x.Op + x.Reg, x.Arg % 256, x.Arg / 256}
	return all[:opRows()[x.Op].length]
}

// decoded looks for the instruction whose bytes are in front.
func decoded(a, b, c int) impl.Instr {
	for op, row := range opRows() {
		for _, reg := range row.regs() {
			if 8*op+reg != a {
				continue
			}
			x := impl.Instr{Op: op, Reg: reg, Arg: []int{0, b, b + 256*c}[row.length-1]}
			if isInstr(x) {
				return x
			}
		}
	}
	return impl.Instr{Op: trapOp}
}

func lineOf(x impl.Instr) string {
	row := opRows()[x.Op]
	switch {
	case row.reg && row.arg >= 0:
		return fmt.Sprint(row.word, " ", x.Reg, " ", x.Arg)
	case row.reg:
		return fmt.Sprint(row.word, " ", x.Reg)
	case row.arg >= 0:
		return fmt.Sprint(row.word, " ", x.Arg)
	}
	return row.word
}

var numberForm = regexp.MustCompile(`^(0|[1-9][0-9]*)$`)

// readLine accepts a line if, without its additional spaces, it is the text of the instruction that its numbers give.
func readLine(line string) (impl.Instr, bool) {
	words := strings.FieldsFunc(line, func(r rune) bool { return r == ' ' })
	plain := strings.Join(words, " ")
	for op, row := range opRows() {
		if len(words) == 0 || words[0] != row.word {
			continue
		}
		x := impl.Instr{Op: op}
		numbers := words[1:]
		if row.reg && len(numbers) > 0 {
			x.Reg, numbers = smallNumber(numbers[0]), numbers[1:]
		}
		if row.arg >= 0 && len(numbers) > 0 {
			x.Arg = smallNumber(numbers[0])
		}
		return x, isInstr(x) && lineOf(x) == plain
	}
	return impl.Instr{}, false
}

// smallNumber is -1 for a text that is not a number of at most four digits.
func smallNumber(t string) int {
	n := 0
	if len(t) > 4 || !numberForm.MatchString(t) {
		return -1
	}
	for _, digit := range t {
		n = 10*n + int(digit-'0')
	}
	return n
}

func wantCode(t *testing.T, x impl.Instr, want ...int) {
	t.Helper()
	if list, code := impl.Encode(x); code != impl.OK || !slices.Equal(list, want) {
		t.Error("Encode of", x, "is", list, "code", code, "and not", want)
	}
}

func wantDecoded(t *testing.T, a, b, c int, want impl.Instr) {
	t.Helper()
	if x, code := impl.Decode(a, b, c); x != want || code != impl.OK {
		t.Error("Decode of", a, b, c, "is", x, "code", code, "and not", want)
	}
}

func wantTrap(t *testing.T, a, b, c int) {
	t.Helper()
	wantDecoded(t, a, b, c, impl.Instr{Op: trapOp})
}

func wantNotDecoded(t *testing.T, a, b, c int) {
	t.Helper()
	if x, code := impl.Decode(a, b, c); x != (impl.Instr{}) || code != impl.ErrRange {
		t.Error("Decode of", a, b, c, "is", x, "code", code)
	}
}

func wantInstrRead(t *testing.T, line string, want impl.Instr) {
	t.Helper()
	if x, code := impl.ReadInstr(line); x != want || code != impl.OK {
		t.Errorf("ReadInstr of %.60q is %v, code %d, and not %v", line, x, code, want)
	}
}

func wantNotRead(t *testing.T, line string, want int) {
	t.Helper()
	if x, code := impl.ReadInstr(line); x != (impl.Instr{}) || code != want {
		t.Errorf("ReadInstr of %.60q is %v, code %d, and not code %d", line, x, code, want)
	}
}

func wantAssembled(t *testing.T, what string, lines []string, want []int) {
	t.Helper()
	if list, code := impl.Assemble(lines); code != impl.OK || !slices.Equal(list, want) {
		t.Error("Assemble of", what, "is", list, "code", code, "and not", want)
	}
}

func wantNotAssembled(t *testing.T, what string, lines []string, want int) {
	t.Helper()
	if list, code := impl.Assemble(lines); len(list) != 0 || code != want {
		t.Error("Assemble of", what, "has", len(list), "bytes, code", code, "and not code", want)
	}
}
