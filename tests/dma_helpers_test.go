package tests

import (
	"fmt"
	"slices"
	"testing"

	"loop.example/g00563/impl"
)

const dmaChannels = 4

// idleDma does not use NewDma.
func idleDma() []impl.Channel {
	return make([]impl.Channel, dmaChannels)
}

// patternDma has four different channels without a 0; their addresses are in the work memory and in the flash.
func patternDma() []impl.Channel {
	return []impl.Channel{
		{Src: 20, Dst: 120, Left: 7, Up: 1},
		{Src: 530, Dst: 60, Left: 200, Up: 1},
		{Src: 33, Dst: 640, Left: 1, Up: 1},
		{Src: 700, Dst: 270, Left: 30, Up: 1},
	}
}

func withChannel(list []impl.Channel, i int, c impl.Channel) []impl.Channel {
	list = slices.Clone(list)
	list[i] = c
	return list
}

func nextAddress(at, up int) int {
	if at == 4095 && up == 1 {
		return 0
	}
	return at + up
}

// movedOf is the move that chapter 10 describes, for a valid memory, list and number. The memory behaves as byteAt and afterPut say.
func movedOf(m impl.Mem, list []impl.Channel, i int) (impl.Mem, []impl.Channel, bool) {
	c := list[i]
	if c.Left == 0 {
		return copyMem(m), slices.Clone(list), false
	}
	next := impl.Channel{Src: nextAddress(c.Src, c.Up), Dst: nextAddress(c.Dst, c.Up), Left: c.Left - 1, Up: c.Up}
	return afterPut(m, c.Dst, byteAt(m, c.Src)), withChannel(list, i, next), c.Left == 1
}

type channelField struct {
	name string
	most int
	set  func(c *impl.Channel, v int)
}

func channelFields() []channelField {
	return []channelField{
		{"Src", 4095, func(c *impl.Channel, v int) { c.Src = v }},
		{"Dst", 4095, func(c *impl.Channel, v int) { c.Dst = v }},
		{"Left", 255, func(c *impl.Channel, v int) { c.Left = v }},
		{"Up", 1, func(c *impl.Channel, v int) { c.Up = v }},
	}
}

func (f channelField) of(c impl.Channel, v int) impl.Channel {
	f.set(&c, v)
	return c
}

func validChannels() []impl.Channel {
	list := []impl.Channel{{}, {Src: 4095, Dst: 4095, Left: 255, Up: 1}}
	for _, c := range patternDma() {
		for _, f := range channelFields() {
			for _, v := range []int{0, 1, f.most - 1, f.most} {
				list = append(list, f.of(c, v))
			}
		}
	}
	return list
}

func invalidChannels() []impl.Channel {
	list := []impl.Channel{{Src: -1, Dst: -1, Left: -1, Up: -1}, {Src: 4096, Dst: 4096, Left: 256, Up: 2}}
	for _, c := range []impl.Channel{{}, patternDma()[0]} {
		for _, f := range channelFields() {
			for _, v := range beyond(f.most) {
				list = append(list, f.of(c, v))
			}
		}
	}
	return list
}

type namedDma struct {
	name string
	list []impl.Channel
}

func validDmas() []namedDma {
	all := []namedDma{
		{"idle", idleDma()},
		{"pattern", patternDma()},
		{"four equal channels", slices.Repeat([]impl.Channel{{Src: 10, Dst: 600, Left: 255}}, dmaChannels)},
	}
	for i := range dmaChannels {
		for _, c := range validChannels() {
			all = append(all, namedDma{fmt.Sprint("channel ", i, " ", c), withChannel(patternDma(), i, c)})
		}
	}
	return all
}

// channelList has n channels that are all valid, so that nothing but their number is wrong.
func channelList(n int) []impl.Channel {
	return slices.Repeat(patternDma(), n/dmaChannels+1)[:n]
}

func invalidDmas() []namedDma {
	all := []namedDma{{"nil", nil}, {"empty", []impl.Channel{}}}
	for _, n := range []int{1, 2, 3, 5, 8, 260, impl.MaxList - 1, impl.MaxList} {
		all = append(all, namedDma{fmt.Sprint(n, " channels"), channelList(n)})
	}
	for i := range dmaChannels {
		for _, c := range invalidChannels() {
			all = append(all, namedDma{fmt.Sprint("channel ", i, " ", c), withChannel(patternDma(), i, c)})
		}
	}
	return all
}

func longDmas() []namedDma {
	return []namedDma{
		{"MaxList + 1 channels", channelList(impl.MaxList + 1)},
		{"2 * MaxList channels", channelList(2 * impl.MaxList)},
		{"MaxList + 1 zero channels", make([]impl.Channel, impl.MaxList+1)},
		{"MaxList + 1 invalid channels", slices.Repeat([]impl.Channel{{Left: 256}}, impl.MaxList+1)},
	}
}

func allDmas() []namedDma {
	return slices.Concat(validDmas(), invalidDmas(), longDmas())
}

// someNumbers are the ends of the range of a channel's number, and the numbers beside them.
func someNumbers() []int {
	return []int{-1, 0, 3, 4}
}

func wantDma(t *testing.T, what string, got, want []impl.Channel, code int) {
	t.Helper()
	if code != impl.OK || !slices.Equal(got, want) {
		t.Error(what, "is", got, "code", code, "and not", want)
	}
}

func wantNoDma(t *testing.T, what string, got []impl.Channel, code, want int) {
	t.Helper()
	if code != want || len(got) != 0 {
		t.Error(what, "is", got, "code", code, "and not code", want)
	}
}

// wantMoved compares a move with the model.
func wantMoved(t *testing.T, what string, m impl.Mem, list []impl.Channel, i int) (impl.Mem, []impl.Channel, bool) {
	t.Helper()
	wantM, wantList, wantLast := movedOf(m, list, i)
	x, next, last, code := impl.DmaMove(m, list, i)
	if code != impl.OK || !equalMems(x, wantM) || !slices.Equal(next, wantList) || last != wantLast {
		wantMem(t, what, x, wantM, code)
		wantDma(t, what, next, wantList, code)
		t.Fatal(what, "- DmaMove of channel", i, "of", list, "returns", last)
	}
	return x, next, last
}

func wantMoves(t *testing.T, what string, m impl.Mem, list []impl.Channel, i, n int) (impl.Mem, []impl.Channel) {
	t.Helper()
	for move := range n {
		m, list, _ = wantMoved(t, fmt.Sprint(what, ", move ", move), m, list, i)
	}
	return m, list
}

func wantNotMoved(t *testing.T, what string, m impl.Mem, list []impl.Channel, i, want int) {
	t.Helper()
	x, next, last, code := impl.DmaMove(m, list, i)
	if code != want || !isZeroMem(x) || len(next) != 0 || last {
		t.Error("DmaMove of channel", i, "of", what, "is", x, next, last, "code", code, "and not code", want)
	}
}

// oneChannel is an idle list but for one channel.
func oneChannel(i, src, dst, left, up int) []impl.Channel {
	return withChannel(idleDma(), i, impl.Channel{Src: src, Dst: dst, Left: left, Up: up})
}

func mustSet(t *testing.T, list []impl.Channel, i int, c impl.Channel) []impl.Channel {
	t.Helper()
	next, code := impl.SetChannel(list, i, c)
	wantDma(t, fmt.Sprint("SetChannel of channel ", i, " to ", c), next, withChannel(list, i, c), code)
	return next
}

// moveCycles puts the bytes of write cycles into the work memory from 60 on, and moves each to its offset.
func moveCycles(t *testing.T, m impl.Mem, cycles []busCycle) impl.Mem {
	t.Helper()
	for place, c := range onBus(cycles) {
		i := place % dmaChannels
		list := mustSet(t, patternDma(), i, impl.Channel{Src: 60 + place, Dst: c.at, Left: 1, Up: place % 2})
		next, _, last := wantMoved(t, fmt.Sprint("cycle ", place, " of ", cycles), withRam(m, 60+place, c.v), list, i)
		if !last {
			t.Error("the only byte is not reported as the last one:", list[i])
		}
		m = next
		m.Ram[60+place] = 0
	}
	return m
}
