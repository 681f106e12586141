package tests

import (
	"slices"
	"testing"

	"loop.example/g00563/impl"
)

func TestCodeExamples(t *testing.T) {
	wantCode(t, impl.Instr{Op: impl.OpLdi, Reg: 2, Arg: 200}, 42, 200)
	wantCode(t, impl.Instr{Op: impl.OpSt, Reg: 1, Arg: 597}, 57, 85, 2)
	wantCode(t, impl.Instr{Op: impl.OpCall, Arg: 512}, 144, 0, 2)
	if n, code := impl.CyclesOf(impl.OpLdi); n != 4 || code != impl.OK {
		t.Error("CyclesOf of ldi is", n, "code", code)
	}
	wantTrap(t, 44, 0, 0)
	wantTrap(t, 168, 4, 0)
	wantTrap(t, 48, 0, 16)
	wantNotDecoded(t, 256, 0, 0)
}

func TestOperationConstants(t *testing.T) {
	got := []int{impl.OpNop, impl.OpHalt, impl.OpReti, impl.OpEi, impl.OpDi, impl.OpLdi, impl.OpLd, impl.OpSt,
		impl.OpInc, impl.OpDec, impl.OpAdd, impl.OpSub, impl.OpAnd, impl.OpOr, impl.OpXor, impl.OpJp, impl.OpJz,
		impl.OpJnz, impl.OpCall, impl.OpRet, impl.OpSwi, impl.OpBank, impl.OpTrap}
	if !slices.Equal(got, countFrom(0, 23)) {
		t.Error("the operations are", got)
	}
}

func TestInstrOK(t *testing.T) {
	if !impl.InstrOK(impl.Instr{}) {
		t.Error("the zero value is nop, and not valid")
	}
	for _, x := range everyInstr() {
		if !impl.InstrOK(x) {
			t.Error("not valid:", x)
		}
	}
	for _, x := range invalidInstrs() {
		if impl.InstrOK(x.instr) {
			t.Error("valid:", x.name, x.instr)
		}
	}
}

// Every combination of an operation, a register and a number at an end of some range or beyond it.
func TestInstrOKOfCombinations(t *testing.T) {
	args := append([]int{0, 1, 2, 3, 4, 5, 254, 255, 256, 4094, 4095}, wrongArgs()...)
	for _, op := range append(countFrom(-1, 25), wrongOps()...) {
		for _, reg := range append(countFrom(-1, 10), wrongRegs()...) {
			for _, arg := range args {
				x := impl.Instr{Op: op, Reg: reg, Arg: arg}
				if impl.InstrOK(x) != isInstr(x) {
					t.Error("InstrOK of", x, "is", !isInstr(x))
				}
			}
		}
	}
}

func TestTrapIsNoInstruction(t *testing.T) {
	for reg := range 4 {
		for _, arg := range []int{0, 1, 255, 4095} {
			x := impl.Instr{Op: impl.OpTrap, Reg: reg, Arg: arg}
			if impl.InstrOK(x) {
				t.Error("valid:", x)
			}
		}
	}
}

func TestLengthsAndCycles(t *testing.T) {
	for op, row := range append(opRows(), opRow{length: 1, cycles: 12}) {
		if n, code := impl.LengthOf(op); n != row.length || code != impl.OK {
			t.Error("LengthOf of", op, "is", n, "code", code)
		}
		if n, code := impl.CyclesOf(op); n != row.cycles || code != impl.OK {
			t.Error("CyclesOf of", op, "is", n, "code", code)
		}
	}
}

func TestLengthsAndCyclesOutOfRange(t *testing.T) {
	for _, op := range wrongOps() {
		if n, code := impl.LengthOf(op); n != 0 || code != impl.ErrRange {
			t.Error("LengthOf of", op, "is", n, "code", code)
		}
		if n, code := impl.CyclesOf(op); n != 0 || code != impl.ErrRange {
			t.Error("CyclesOf of", op, "is", n, "code", code)
		}
	}
}

func TestEncodeOfEachOperation(t *testing.T) {
	for _, x := range edgeInstrs() {
		wantCode(t, x, codeOf(x)...)
	}
}

// The bytes are written out here, as the model divides an address as the program does.
func TestEncodeOfWrittenBytes(t *testing.T) {
	for _, x := range []struct {
		instr impl.Instr
		bytes []int
	}{
		{impl.Instr{}, []int{0}},
		{impl.Instr{Op: impl.OpHalt}, []int{8}},
		{impl.Instr{Op: impl.OpReti}, []int{16}},
		{impl.Instr{Op: impl.OpLdi}, []int{40, 0}},
		{impl.Instr{Op: impl.OpLdi, Reg: 3, Arg: 255}, []int{43, 255}},
		{impl.Instr{Op: impl.OpLd}, []int{48, 0, 0}},
		{impl.Instr{Op: impl.OpLd, Reg: 3, Arg: 4095}, []int{51, 255, 15}},
		{impl.Instr{Op: impl.OpSt, Reg: 2, Arg: 255}, []int{58, 255, 0}},
		{impl.Instr{Op: impl.OpSt, Reg: 2, Arg: 256}, []int{58, 0, 1}},
		{impl.Instr{Op: impl.OpInc}, []int{64}},
		{impl.Instr{Op: impl.OpXor, Reg: 3}, []int{115}},
		{impl.Instr{Op: impl.OpJp, Arg: 531}, []int{120, 19, 2}},
		{impl.Instr{Op: impl.OpJz, Arg: 3840}, []int{128, 0, 15}},
		{impl.Instr{Op: impl.OpJnz, Arg: 1}, []int{136, 1, 0}},
		{impl.Instr{Op: impl.OpRet}, []int{152}},
		{impl.Instr{Op: impl.OpSwi}, []int{160, 0}},
		{impl.Instr{Op: impl.OpSwi, Arg: 255}, []int{160, 255}},
		{impl.Instr{Op: impl.OpBank}, []int{168, 0}},
		{impl.Instr{Op: impl.OpBank, Arg: 3}, []int{168, 3}},
	} {
		wantCode(t, x.instr, x.bytes...)
	}
}

func TestEncodeOfInvalidInstructions(t *testing.T) {
	for _, x := range invalidInstrs() {
		if list, code := impl.Encode(x.instr); len(list) != 0 || code != impl.ErrBad {
			t.Error("Encode of", x.name, "is", list, "code", code)
		}
	}
}

func edgeBytes() []int {
	return []int{0, 1, 2, 3, 4, 5, 14, 15, 16, 17, 127, 128, 239, 240, 254, 255}
}

func TestDecodeOfEveryFirstByte(t *testing.T) {
	for a := range 256 {
		for _, b := range edgeBytes() {
			for _, c := range edgeBytes() {
				wantDecoded(t, a, b, c, decoded(a, b, c))
			}
		}
	}
}

// A remainder of 4 to 7 is no register, and one of 1 to 3 is none where the operation has none.
func TestDecodeOfRegistersThatAreNone(t *testing.T) {
	for op, row := range opRows() {
		for rest := len(row.regs()); rest < 8; rest++ {
			wantTrap(t, 8*op+rest, 0, 0)
			wantTrap(t, 8*op+rest, 1, 2)
		}
	}
}

func TestDecodeOfNumbersThatAreNone(t *testing.T) {
	for v := range 256 {
		if v > 3 {
			wantTrap(t, 168, v, 0)
			wantTrap(t, 168, v, v)
		}
		if v < 16 {
			continue
		}
		for op, row := range opRows() {
			for _, reg := range row.regs() {
				if row.length == 3 {
					wantTrap(t, 8*op+reg, 0, v)
					wantTrap(t, 8*op+reg, 255, v)
				}
			}
		}
	}
}

func TestDecodeBeyondTheLastOperation(t *testing.T) {
	for a := 8 * trapOp; a < 256; a++ {
		for _, b := range edgeBytes() {
			wantTrap(t, a, b, 0)
			wantTrap(t, a, 0, b)
		}
	}
}

func TestDecodeIgnoresWhatIsBehind(t *testing.T) {
	for _, x := range edgeInstrs() {
		list := codeOf(x)
		for v := range 256 {
			all := append(slices.Clone(list), v, 255-v)
			wantDecoded(t, all[0], all[1], all[2], x)
		}
	}
}

// A number that is no byte is an error in each place, also where the instruction is shorter or there is a trap.
func TestDecodeOutOfRange(t *testing.T) {
	others := [][2]int{{0, 0}, {40, 255}, {48, 16}, {168, 4}, {176, 0}, {255, 255}, {-1, 256}}
	for _, v := range farNumbers() {
		for _, x := range others {
			wantNotDecoded(t, v, x[0], x[1])
			wantNotDecoded(t, x[0], v, x[1])
			wantNotDecoded(t, x[0], x[1], v)
		}
		for a := range 256 {
			wantNotDecoded(t, a, v, 0)
			wantNotDecoded(t, a, 0, v)
		}
		wantNotDecoded(t, v, v, v)
	}
}
