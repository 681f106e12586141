package tests

import (
	"fmt"
	"testing"

	"loop.example/g00563/impl"
)

// stackPlaces has for Sp where two pushed bytes go, higher byte first, and Sp afterwards.
func stackPlaces() map[int][3]int {
	return map[int][3]int{
		255: {255, 254, 253},
		254: {254, 253, 252},
		180: {180, 179, 178},
		3:   {3, 2, 1},
		2:   {2, 1, 0},
		1:   {1, 0, 255},
		0:   {0, 255, 254},
	}
}

func TestCallAtEveryStack(t *testing.T) {
	for sp, places := range stackPlaces() {
		for _, to := range []int{0, 255, 600, 752, 4095} {
			c := withSp(cpuAt(600), sp)
			m := placedInstr(patternMem(patternFlash(impl.StRead)), 600, impl.OpCall, 0, to)
			want := cpuWith(c, func(c *impl.Cpu) { c.Pc, c.Sp = to, places[2] })
			y := withRam(withRam(m, places[0], 2), places[1], 91)
			wantStepped(t, fmt.Sprint("call with Sp ", sp), c, m, stepResult{want, y, 8, -1})
		}
	}
}

func TestTrapAtEveryStack(t *testing.T) {
	for sp, places := range stackPlaces() {
		c := withSp(cpuAt(600), sp)
		m := placed(patternMem(patternFlash(impl.StRead)), 600, 176)
		want := cpuWith(c, func(c *impl.Cpu) { c.Pc, c.Sp = 752, places[2] })
		y := withRam(withRam(m, places[0], 2), places[1], 89)
		wantStepped(t, fmt.Sprint("a trap with Sp ", sp), c, m, stepResult{want, y, 12, -1})
	}
}

func TestRetAtEveryStack(t *testing.T) {
	for sp, places := range stackPlaces() {
		c := withSp(cpuAt(600), places[2])
		m := placedInstr(patternMem(patternFlash(impl.StRead)), 600, impl.OpRet, 0, 0)
		m = withRam(withRam(m, places[0], 3), places[1], 33)
		want := cpuWith(c, func(c *impl.Cpu) { c.Pc, c.Sp = 801, sp })
		wantStepped(t, fmt.Sprint("ret with Sp ", places[2]), c, m, stepResult{want, m, 8, -1})
	}
}

// pulledPlaces has for Sp where three pulled bytes are, and Sp afterwards.
func pulledPlaces() map[int][4]int {
	return map[int][4]int{
		255: {0, 1, 2, 2},
		254: {255, 0, 1, 1},
		253: {254, 255, 0, 0},
		252: {253, 254, 255, 255},
		177: {178, 179, 180, 180},
		2:   {3, 4, 5, 5},
		1:   {2, 3, 4, 4},
		0:   {1, 2, 3, 3},
	}
}

func TestRetiAtEveryStack(t *testing.T) {
	for sp, places := range pulledPlaces() {
		c := withSp(cpuAt(600), sp)
		m := placedInstr(patternMem(patternFlash(impl.StRead)), 600, impl.OpReti, 0, 0)
		m = withRam(withRam(withRam(m, places[0], 5+8+64), places[1], 33), places[2], 3)
		want := withMarks(c, false, true, false)
		want.Pc, want.Sp, want.Level, want.Bank = 801, places[3], 5, 1
		wantStepped(t, fmt.Sprint("reti with Sp ", sp), c, m, stepResult{want, m, 8, -1})
	}
}

func TestRetiOfEveryByteOfFlags(t *testing.T) {
	m := placedInstr(patternMem(patternFlash(impl.StRead)), 600, impl.OpReti, 0, 0)
	for flags := range 256 {
		m := placed(m, 181, flags, 44, 2)
		for bank := range cpuBanks {
			for _, c := range everyMarks(withBank(patternCpu(), bank)) {
				want := copyCpu(c)
				want.Level, want.Bank = flags%8, flags/8%4
				want.Zero, want.Carry, want.On = flags/32%2 == 1, flags/64%2 == 1, flags >= 128
				want.Pc, want.Sp = 556, 183
				wantStepped(t, fmt.Sprint("reti of the flags ", flags), c, m, stepResult{want, m, 8, -1})
			}
		}
	}
}

func TestReturnedAddressModulo4096(t *testing.T) {
	for high := range 256 {
		for _, low := range []int{0, 1, 128, 254, 255} {
			want := (256*high + low) % 4096
			c := cpuAt(600)
			m := placed(patternMem(patternFlash(impl.StRead)), 181, low, high)
			ret := placedInstr(m, 600, impl.OpRet, 0, 0)
			x := cpuWith(c, func(c *impl.Cpu) { c.Pc, c.Sp = want, 182 })
			wantStepped(t, fmt.Sprint("ret to ", low, high), c, ret, stepResult{x, ret, 8, -1})
			reti := placedInstr(m, 600, impl.OpReti, 0, 0)
			reti = withRam(reti, 180, flagsOf(c))
			x = cpuWith(c, func(c *impl.Cpu) { c.Pc, c.Sp = want, 182 })
			wantStepped(t, fmt.Sprint("reti to ", low, high), withSp(c, 179), reti, stepResult{x, reti, 8, -1})
		}
	}
}

// What is pushed is the address behind the call, wherever it is.
func TestCallFromEveryRegion(t *testing.T) {
	for _, at := range []int{0, 70, 200, 252, 253, 254, 255, 256, 284, 285, 512, 600, 764, 765} {
		c := withSp(cpuAt(at), 100)
		m := placedInstr(patternMem(patternFlash(impl.StRead)), at, impl.OpCall, 0, 530)
		want := cpuWith(c, func(c *impl.Cpu) { c.Pc, c.Sp = 530, 98 })
		y := withRam(withRam(m, 100, (at+3)/256), 99, (at+3)%256)
		wantStepped(t, fmt.Sprint("call at ", at), c, m, stepResult{want, y, 8, -1})
	}
}

// A call whose own bytes are on the stack is decoded before it pushes.
func TestCallOverItsOwnBytes(t *testing.T) {
	for sp := 68; sp <= 74; sp++ {
		c := withSp(cpuAt(70), sp)
		m := placedInstr(patternMem(patternFlash(impl.StRead)), 70, impl.OpCall, 0, 600)
		want := cpuWith(c, func(c *impl.Cpu) { c.Pc, c.Sp = 600, sp-2 })
		y := withRam(withRam(m, sp, 0), sp-1, 73)
		wantStepped(t, fmt.Sprint("call with Sp ", sp), c, m, stepResult{want, y, 8, -1})
	}
}

func TestStackOfEverySp(t *testing.T) {
	for sp := range 256 {
		for _, bytes := range [][]int{{144, 88, 2}, {152}, {16}, {176}} {
			m := placed(patternMem(patternFlash(impl.StRead)), 600, bytes...)
			wantStep(t, fmt.Sprint("the bytes ", bytes, " with Sp ", sp), withSp(cpuAt(600), sp), m)
		}
	}
}

func TestStackGoesRound(t *testing.T) {
	c, m := loaded(t, "call 512")
	for i := range 130 {
		c, m = wantStep(t, fmt.Sprint("call ", i), c, m)
		if want := (255 - 2*(i+1) + 512) % 256; c.Sp != want || c.Pc != 512 {
			t.Fatal("after", i+1, "calls Sp is", c.Sp, "and Pc", c.Pc)
		}
	}
	for at, v := range m.Ram {
		if want := []int{3, 2}[at%2]; v != want {
			t.Error("the stack has", v, "at", at, "and not", want)
		}
	}
}
