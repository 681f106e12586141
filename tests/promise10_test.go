package tests

import (
	"fmt"
	"slices"
	"testing"

	"loop.example/g00563/impl"
)

// mustMove does not compare with the model.
func mustMove(t *testing.T, m impl.Mem, list []impl.Channel, i int) (impl.Mem, []impl.Channel, bool) {
	t.Helper()
	x, next, last, code := impl.DmaMove(m, list, i)
	if code != impl.OK || !impl.MemOK(x) || !impl.DmaOK(next) {
		t.Fatal("DmaMove of channel", i, "of", list, "code", code)
	}
	return x, next, last
}

// wantNothingMoved is for a channel without bytes, however often it is asked.
func wantNothingMoved(t *testing.T, m impl.Mem, list []impl.Channel, i int) {
	t.Helper()
	x, next, last := m, list, false
	for range 3 {
		x, next, last = mustMove(t, x, next, i)
		if last || !equalMems(x, m) || !slices.Equal(next, list) {
			t.Fatal("channel", i, "moves without bytes: it returns", last, "and becomes", next, "from", list)
		}
	}
}

// checkPromise10 runs a channel to its end: each move is a write of the byte that was at Src, and only the last one is reported.
func checkPromise10(t *testing.T, m impl.Mem, list []impl.Channel, i int) (impl.Mem, []impl.Channel) {
	t.Helper()
	start := list[i]
	for move := range start.Left {
		src, dst := (start.Src+move*start.Up)%addressEnd, (start.Dst+move*start.Up)%addressEnd
		v, code := impl.BusGet(m, src)
		want, codePut := impl.BusPut(m, dst, v)
		if code != impl.OK || codePut != impl.OK {
			t.Fatal("BusGet of", src, "code", code, "BusPut at", dst, "code", codePut)
		}
		next, moved, last := mustMove(t, m, list, i)
		rest := start.Left - move - 1
		behind := impl.Channel{Src: (src + start.Up) % addressEnd, Dst: (dst + start.Up) % addressEnd, Left: rest, Up: start.Up}
		if !equalMems(next, want) || !slices.Equal(moved, withChannel(list, i, behind)) || last != (rest == 0) {
			wantMem(t, "a move", next, want, impl.OK)
			t.Fatal("move", move, "of", start, "returns", last, "and the list becomes", moved)
		}
		m, list = next, moved
	}
	wantNothingMoved(t, m, list, i)
	return m, list
}

func TestPromise10EveryNumberOfBytes(t *testing.T) {
	m := patternMem(patternFlash(impl.StRead, 2))
	for left := range 256 {
		i := left % dmaChannels
		all := copyMem(m)
		copy(all.Ram, m.Flash.Cells[:left])
		got, list := checkPromise10(t, m, oneChannel(i, 512, 0, left, 1), i)
		wantMem(t, fmt.Sprint(left, " bytes"), got, all, impl.OK)
		wantDma(t, fmt.Sprint(left, " bytes"), list, oneChannel(i, 512+left, left, 0, 1), impl.OK)

		same := copyMem(m)
		copy(same.Ram, m.Flash.Cells[:min(left, 1)])
		got, list = checkPromise10(t, m, oneChannel(i, 512, 0, left, 0), i)
		wantMem(t, fmt.Sprint("the same byte ", left, " times"), got, same, impl.OK)
		wantDma(t, fmt.Sprint("the same byte ", left, " times"), list, oneChannel(i, 512, 0, 0, 0), impl.OK)
	}
}

func TestPromise10FromAndToTheEdges(t *testing.T) {
	m := patternMem(patternFlash(impl.StRead, 2))
	for _, src := range edgeAddresses() {
		for _, dst := range edgeAddresses() {
			for _, up := range []int{0, 1} {
				checkPromise10(t, m, oneChannel(1, src, dst, 5, up), 1)
			}
		}
	}
}

func TestPromise10InEveryStateOfTheFlash(t *testing.T) {
	for state := range flashStates {
		m := patternMem(patternFlash(state, 0, 5, 6, 15))
		for _, c := range []impl.Channel{
			{Src: 500, Dst: 10, Left: 255, Up: 1},
			{Src: 10, Dst: 500, Left: 255, Up: 1},
			{Src: 20, Dst: 612, Left: 4},
			{Src: 597, Dst: 598, Left: 20, Up: 1},
			{Src: 4000, Dst: 767, Left: 255, Up: 1},
		} {
			checkPromise10(t, m, withChannel(patternDma(), 2, c), 2)
		}
	}
}

// channel prefers the areas that are connected, and few bytes.
func (n *noise) channel() impl.Channel {
	place := func() int {
		places := []int{n.below(ramBytes), 250 + n.below(50), 512 + n.below(flashBytes), 597, 554, 4090 + n.below(6), n.below(addressEnd)}
		return places[n.below(len(places))]
	}
	return impl.Channel{Src: place(), Dst: place(), Left: []int{n.below(4), n.below(20), n.below(256)}[n.below(3)], Up: n.below(2)}
}

func (n *noise) channels() []impl.Channel {
	list := idleDma()
	for i := range list {
		list[i] = n.channel()
	}
	return list
}

// Whatever the channels do in between, each moves as many bytes as it was set to, and reports its last one once.
func TestPromise10ChannelsInAnyOrder(t *testing.T) {
	n := &noise{state: 20}
	for range 60 {
		m, list := patternMem(n.flash()), n.channels()
		moves, reports := make([]int, dmaChannels), make([]int, dmaChannels)
		start := slices.Clone(list)
		for range 500 {
			i := n.below(dmaChannels)
			had := list[i].Left
			next, moved, last := wantMoved(t, "channels in any order", m, list, i)
			if had > 0 {
				moves[i]++
			}
			if last {
				reports[i]++
			}
			m, list = next, moved
		}
		for i, c := range list {
			ended := 0
			if c.Left == 0 && start[i].Left > 0 {
				ended = 1
			}
			if moves[i] != start[i].Left-c.Left || reports[i] != ended {
				t.Error("channel", i, "from", start[i], "to", c, "in", moves[i], "moves;", reports[i], "reports")
			}
		}
	}
}

// Two channels whose bytes are apart do not notice in which order they move.
func TestPromise10ChannelsThatAreApart(t *testing.T) {
	m := patternMem(patternFlash(impl.StRead))
	list := withChannel(oneChannel(0, 512, 10, 50, 1), 3, impl.Channel{Src: 600, Dst: 100, Left: 50, Up: 1})
	want, wantList := checkPromise10(t, m, list, 0)
	want, wantList = checkPromise10(t, want, wantList, 3)
	for range 50 {
		m, list, _ = mustMove(t, m, list, 3)
		m, list, _ = mustMove(t, m, list, 0)
	}
	wantMem(t, "in turn", m, want, impl.OK)
	wantDma(t, "in turn", list, wantList, impl.OK)
}

func TestPromise10WholeHistories(t *testing.T) {
	n := &noise{state: 21}
	for history := range 200 {
		m, list := patternMem(n.flash()), impl.NewDma()
		for step := range 60 {
			what := fmt.Sprint("history ", history, ", step ", step)
			i := n.below(dmaChannels)
			switch n.below(6) {
			case 0:
				list = mustSet(t, list, i, n.channel())
			case 1:
				m = mustPut(t, m, n.put())
			default:
				before := copyFlash(m.Flash)
				m, list, _ = wantMoved(t, what, m, list, i)
				checkPromise4(t, before, m.Flash)
			}
		}
	}
}

// Commands of the flash, each cycle of which is moved by another channel.
func TestPromise10CommandsByChannels(t *testing.T) {
	n := &noise{state: 22}
	for range 100 {
		m := patternMem(n.flash())
		m.Flash.State = impl.StRead
		for range 5 {
			command := n.command()
			want := withMemFlash(m, mustCycles(t, m.Flash, command...))
			got := moveCycles(t, m, command)
			for place := range command {
				want.Ram[60+place] = 0
			}
			wantMem(t, "a command", got, want, impl.OK)
			m = got
		}
	}
}
