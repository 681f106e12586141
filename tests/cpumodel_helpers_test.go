package tests

import "loop.example/g00563/impl"

// stepResult is what StepCpu returns beside the code 0.
type stepResult struct {
	cpu         impl.Cpu
	mem         impl.Mem
	cycles, swi int
}

// cpuModel is a processor with its memory, written from the text of chapter 9. The memory behaves as byteAt and afterPut say.
type cpuModel struct {
	c   impl.Cpu
	m   impl.Mem
	swi int
}

func flag(set bool, weight int) int {
	if set {
		return weight
	}
	return 0
}

func flagsOf(c impl.Cpu) int {
	return c.Level + 8*c.Bank + flag(c.Zero, 32) + flag(c.Carry, 64) + flag(c.On, 128)
}

// withFlags takes the bits of the flags one by one.
func withFlags(c impl.Cpu, flags int) impl.Cpu {
	var bits [8]int
	for i := range bits {
		bits[i] = flags >> i & 1
	}
	return cpuWith(c, func(c *impl.Cpu) {
		c.Level = bits[0] + 2*bits[1] + 4*bits[2]
		c.Bank = bits[3] + 2*bits[4]
		c.Zero, c.Carry, c.On = bits[5] == 1, bits[6] == 1, bits[7] == 1
	})
}

// push relies on the stack being in the work memory: Sp is a byte.
func (x *cpuModel) push(v int) {
	x.m.Ram[x.c.Sp] = v
	x.c.Sp--
	if x.c.Sp < 0 {
		x.c.Sp = 255
	}
}

func (x *cpuModel) pull() int {
	x.c.Sp++
	if x.c.Sp > 255 {
		x.c.Sp = 0
	}
	return x.m.Ram[x.c.Sp]
}

func (x *cpuModel) call(at int) {
	x.push(x.c.Pc / 256)
	x.push(x.c.Pc % 256)
	x.c.Pc = at
}

func (x *cpuModel) comeBack() {
	low := x.pull()
	high := x.pull()
	x.c.Pc = low + 256*(high%16)
}

func (x *cpuModel) result(place, v int) {
	if v > 255 {
		v -= 256
	}
	if v < 0 {
		v += 256
	}
	x.c.Regs[place] = v
	x.c.Zero = v == 0
}

// compute is for the operations from inc to xor, where first is register 0 and place Reg.
func (x *cpuModel) compute(word string, first, place int) {
	a, b := x.c.Regs[first], x.c.Regs[place]
	switch word {
	case "inc":
		x.result(place, b+1)
	case "dec":
		x.result(place, b-1)
	case "add":
		x.result(first, a+b)
		x.c.Carry = a+b > 255
	case "sub":
		x.result(first, a-b)
		x.c.Carry = a < b
	case "and":
		x.result(first, a&b)
		x.c.Carry = false
	case "or":
		x.result(first, a|b)
		x.c.Carry = false
	case "xor":
		x.result(first, a^b)
		x.c.Carry = false
	}
}

func (x *cpuModel) execute(word string, reg, arg int) {
	first := 4 * x.c.Bank
	place := first + reg
	switch word {
	case "halt":
		x.c.Halt = true
	case "ei", "di":
		x.c.On = word == "ei"
	case "ldi":
		x.c.Regs[place] = arg
	case "ld":
		x.result(place, byteAt(x.m, arg))
	case "st":
		x.m = afterPut(x.m, arg, x.c.Regs[place])
	case "jp":
		x.c.Pc = arg
	case "jz", "jnz":
		if x.c.Zero == (word == "jz") {
			x.c.Pc = arg
		}
	case "call":
		x.call(arg)
	case "reti":
		x.c = withFlags(x.c, x.pull())
		x.comeBack()
	case "ret":
		x.comeBack()
	case "swi":
		x.swi = arg
	case "bank":
		x.c.Bank = arg
	default:
		x.compute(word, first, place)
	}
}

// stepOf is the step that chapter 9 describes, for a valid processor and memory.
func stepOf(c impl.Cpu, m impl.Mem) stepResult {
	x := &cpuModel{copyCpu(c), copyMem(m), -1}
	if c.Halt {
		return stepResult{x.c, x.m, 4, -1}
	}
	var bytes [3]int
	for i := range bytes {
		bytes[i] = byteAt(m, (c.Pc+i)%addressEnd)
	}
	instr := decoded(bytes[0], bytes[1], bytes[2])
	if instr.Op == trapOp {
		x.c.Pc = (c.Pc + 1) % addressEnd
		x.call(trapAddress)
		return stepResult{x.c, x.m, 12, -1}
	}
	row := opRows()[instr.Op]
	x.c.Pc = (c.Pc + row.length) % addressEnd
	x.execute(row.word, instr.Reg, instr.Arg)
	return stepResult{x.c, x.m, row.cycles, x.swi}
}

// entered is the processor that enters an interrupt, and its memory.
func entered(c impl.Cpu, m impl.Mem, line, level int) (impl.Cpu, impl.Mem) {
	x := &cpuModel{copyCpu(c), copyMem(m), -1}
	flags := flagsOf(c)
	x.c.Halt = false
	x.call(704 + 4*line)
	x.push(flags)
	x.c.Level = level
	return x.c, x.m
}
