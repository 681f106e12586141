package tests

import (
	"fmt"
	"slices"
	"testing"

	"loop.example/g00563/impl"
)

func TestDmaExamples(t *testing.T) {
	m, code := impl.NewMem([]int{11, 12, 13, 14})
	if code != impl.OK {
		t.Fatal("NewMem: code", code)
	}
	list := mustSet(t, impl.NewDma(), 2, impl.Channel{Src: 512, Dst: 40, Left: 3, Up: 1})
	for move, want := range []bool{false, false, true, false} {
		next, moved, last, code := impl.DmaMove(m, list, 2)
		if last != want || code != impl.OK {
			t.Error("move", move, "returns", last, "code", code)
		}
		m, list = next, moved
	}
	wantDma(t, "the list after four calls", list, oneChannel(2, 515, 43, 0, 1), impl.OK)
	if !slices.Equal(m.Ram[39:45], []int{0, 11, 12, 13, 0, 0}) {
		t.Error("the work memory after four calls is", m.Ram[39:45])
	}
	_, list, _, code = impl.DmaMove(m, oneChannel(0, 4095, 7, 9, 1), 0)
	wantDma(t, "a channel with Src 4095", list, oneChannel(0, 0, 8, 8, 1), code)
	list, code = impl.SetChannel(impl.NewDma(), 0, impl.Channel{Left: 256})
	wantNoDma(t, "SetChannel with Left 256", list, code, impl.ErrRange)
}

func TestNewDma(t *testing.T) {
	list := impl.NewDma()
	wantDma(t, "NewDma", list, []impl.Channel{{}, {}, {}, {}}, impl.OK)
	if !impl.DmaOK(list) {
		t.Error("NewDma is not valid")
	}
}

func TestDmaOK(t *testing.T) {
	for _, x := range validDmas() {
		if !impl.DmaOK(x.list) {
			t.Error("not valid:", x.name)
		}
	}
	for _, x := range append(invalidDmas(), longDmas()...) {
		if impl.DmaOK(x.list) {
			t.Error("valid:", x.name)
		}
	}
}

func TestDmaOKOfEveryNumberInAField(t *testing.T) {
	for i := range dmaChannels {
		for _, f := range channelFields() {
			for v := -2; v <= f.most+2; v++ {
				list := withChannel(patternDma(), i, f.of(patternDma()[i], v))
				if want := v >= 0 && v <= f.most; impl.DmaOK(list) != want {
					t.Error("DmaOK is", !want, "for", f.name, v, "of channel", i)
				}
			}
		}
	}
}

func TestSetChannelOfEveryChannel(t *testing.T) {
	for i := range dmaChannels {
		for _, c := range validChannels() {
			for _, list := range [][]impl.Channel{idleDma(), patternDma()} {
				mustSet(t, mustSet(t, list, i, c), i, list[i])
			}
		}
	}
}

func TestSetChannelOfValidLists(t *testing.T) {
	for _, x := range validDmas() {
		for i := range dmaChannels {
			mustSet(t, x.list, i, impl.Channel{Src: 300, Dst: 9, Left: 255})
		}
	}
}

func TestSetChannelOneAfterTheOther(t *testing.T) {
	list := impl.NewDma()
	for _, i := range []int{3, 0, 2, 1} {
		list = mustSet(t, list, i, patternDma()[i])
	}
	wantDma(t, "four channels", list, patternDma(), impl.OK)
}

func TestSetChannelNumbersOutOfRange(t *testing.T) {
	for _, x := range []namedDma{{"idle", idleDma()}, {"pattern", patternDma()}} {
		for _, i := range beyond(dmaChannels - 1) {
			for _, c := range append(invalidChannels(), validChannels()...) {
				list, code := impl.SetChannel(x.list, i, c)
				wantNoDma(t, fmt.Sprint("SetChannel of channel ", i, " to ", c, ", ", x.name), list, code, impl.ErrRange)
			}
		}
	}
}

func TestSetChannelToInvalidChannels(t *testing.T) {
	for i := range dmaChannels {
		for _, c := range invalidChannels() {
			list, code := impl.SetChannel(patternDma(), i, c)
			wantNoDma(t, fmt.Sprint("SetChannel of channel ", i, " to ", c), list, code, impl.ErrRange)
		}
	}
}

func wantSetCode(t *testing.T, lists []namedDma, want int) {
	t.Helper()
	for _, x := range lists {
		for _, i := range append(someNumbers(), 1, 2) {
			for _, c := range []impl.Channel{{}, patternDma()[0], {Src: -1}, {Dst: 4096}, {Left: 256}, {Up: 2}} {
				list, code := impl.SetChannel(x.list, i, c)
				wantNoDma(t, fmt.Sprint("SetChannel of channel ", i, " to ", c, ", ", x.name), list, code, want)
			}
		}
	}
}

func TestSetChannelOfInvalidLists(t *testing.T) {
	wantSetCode(t, invalidDmas(), impl.ErrBad)
}

func TestSetChannelOfLongLists(t *testing.T) {
	wantSetCode(t, longDmas(), impl.ErrLong)
}
