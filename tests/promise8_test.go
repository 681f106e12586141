package tests

import (
	"slices"
	"testing"

	"loop.example/g00563/impl"
)

func mustEncode(t *testing.T, x impl.Instr) []int {
	t.Helper()
	list, code := impl.Encode(x)
	if code != impl.OK || len(list) < 1 || len(list) > 3 {
		t.Fatal("Encode of", x, "is", list, "code", code)
	}
	return list
}

// mustDecode fills what is missing to three bytes.
func mustDecode(t *testing.T, list []int, behind ...int) impl.Instr {
	t.Helper()
	all := append(slices.Clone(list), behind...)
	x, code := impl.Decode(all[0], all[1], all[2])
	if code != impl.OK {
		t.Fatal("Decode of", all[:3], "code", code)
	}
	return x
}

func TestPromise8EveryInstructionFromItsBytes(t *testing.T) {
	for _, x := range everyInstr() {
		list := mustEncode(t, x)
		for _, behind := range [][]int{{0, 0}, {255, 255}, {16, 4}, {4, 16}} {
			if back := mustDecode(t, list, behind...); back != x {
				t.Fatal("the bytes", list, "before", behind, "of", x, "are decoded to", back)
			}
		}
	}
}

func TestPromise8EveryInstructionWhateverFollows(t *testing.T) {
	for _, x := range edgeInstrs() {
		list := mustEncode(t, x)
		for v := range 256 {
			for _, w := range []int{0, 15, 16, 128, 255, v} {
				if back := mustDecode(t, list, v, w); back != x {
					t.Fatal("the bytes", list, "before", v, w, "of", x, "are decoded to", back)
				}
			}
		}
	}
}

func TestPromise8EveryInstructionFromItsText(t *testing.T) {
	for _, x := range everyInstr() {
		text, code := impl.InstrText(x)
		if code != impl.OK {
			t.Fatal("InstrText of", x, "code", code)
		}
		if back, code := impl.ReadInstr(text); back != x || code != impl.OK {
			t.Fatalf("the text %q of %v is read as %v, code %d", text, x, back, code)
		}
	}
}

// Whatever is decoded is a trap or an instruction that is encoded to the same bytes.
func TestPromise8EncodedToTheSameBytes(t *testing.T) {
	thirds := append(countFrom(0, 18), 127, 128, 240, 255)
	for a := range 256 {
		for b := range 256 {
			for _, c := range thirds {
				x := mustDecode(t, []int{a, b, c})
				if x == (impl.Instr{Op: impl.OpTrap}) {
					continue
				}
				list := mustEncode(t, x)
				n, code := impl.LengthOf(x.Op)
				if code != impl.OK || n != len(list) || !slices.Equal(list, []int{a, b, c}[:n]) {
					t.Fatal("the bytes", a, b, c, "of", x, "are encoded to", list)
				}
			}
		}
	}
}

// A trap is what no instruction is encoded to.
func TestPromise8TrapsAreAllOtherBytes(t *testing.T) {
	fronts := map[[3]int]bool{}
	for _, x := range everyInstr() {
		list := mustEncode(t, x)
		fronts[[3]int(append(list, -1, -1)[:3])] = true
	}
	for a := range 256 {
		for b := range 256 {
			for _, c := range append(countFrom(0, 18), 255) {
				known := fronts[[3]int{a, -1, -1}] || fronts[[3]int{a, b, -1}] || fronts[[3]int{a, b, c}]
				x := mustDecode(t, []int{a, b, c})
				if known != (x.Op != impl.OpTrap) || x.Op == impl.OpTrap && x != (impl.Instr{Op: impl.OpTrap}) {
					t.Fatal("the bytes", a, b, c, "are decoded to", x)
				}
			}
		}
	}
}

func TestPromise8TextsAreReadToTheSameText(t *testing.T) {
	words := []string{"nop", "ldi", "ld", "st", "inc", "jp", "swi", "bank", "trap", "0", "1", "3", "4", "255", "256", "4095", "4096", "00", "-1", "", " "}
	n := &noise{state: 17}
	for range 50000 {
		line := ""
		for range n.below(5) {
			line += words[n.below(len(words))] + " "
		}
		x, code := impl.ReadInstr(line)
		want, ok := readLine(line)
		if ok != (code == impl.OK) || ok && x != want || !ok && (x != impl.Instr{} || code != impl.ErrForm) {
			t.Fatalf("ReadInstr of %q is %v, code %d", line, x, code)
		}
	}
}

func (n *noise) instr() impl.Instr {
	op := n.below(opCount)
	row := opRows()[op]
	regs := row.regs()
	return impl.Instr{Op: op, Reg: regs[n.below(len(regs))], Arg: n.below(max(row.arg, 0) + 1)}
}

// A program is recovered as a whole: each length leads to the next instruction.
func TestPromise8WholePrograms(t *testing.T) {
	n := &noise{state: 18}
	for range 500 {
		var list []impl.Instr
		for range n.below(86) {
			list = append(list, n.instr())
		}
		lines, want := linesAndBytes(list)
		program, code := impl.Assemble(lines)
		if code != impl.OK || !slices.Equal(program, want) {
			t.Fatal("Assemble of", lines, "is", program, "code", code)
		}
		var back []impl.Instr
		for at := 0; at < len(program); {
			x := mustDecode(t, program[at:], n.below(256), n.below(256))
			length, _ := impl.LengthOf(x.Op)
			at += length
			back = append(back, x)
		}
		if !slices.Equal(back, list) {
			t.Fatal("the program of", list, "is decoded to", back)
		}
	}
}
