package tests

import (
	"fmt"
	"testing"

	"loop.example/g00563/impl"
)

func TestDmaMoveNumbersOutOfRange(t *testing.T) {
	plain := patternMem(patternFlash(impl.StRead, 2))
	for _, i := range append(beyond(dmaChannels-1), farNumbers()...) {
		for _, x := range validDmas() {
			wantNotMoved(t, fmt.Sprint(i, " of ", x.name), plain, x.list, i, impl.ErrRange)
		}
		for _, y := range validMems() {
			wantNotMoved(t, fmt.Sprint(i, ", ", y.name), y.mem, idleDma(), i, impl.ErrRange)
		}
	}
}

func TestDmaMoveOfInvalidLists(t *testing.T) {
	for _, x := range invalidDmas() {
		for _, i := range append(someNumbers(), 1, 2) {
			wantNotMoved(t, x.name, patternMem(patternFlash(impl.StRead)), x.list, i, impl.ErrBad)
		}
	}
}

// A channel without bytes does not need the memory, which is looked at all the same.
func TestDmaMoveOfInvalidMemories(t *testing.T) {
	for _, y := range invalidMems() {
		for _, i := range append(someNumbers(), 1, 2) {
			wantNotMoved(t, y.name, y.mem, patternDma(), i, impl.ErrBad)
			wantNotMoved(t, y.name, y.mem, idleDma(), i, impl.ErrBad)
		}
	}
}

func TestDmaMoveOfInvalidListsAndMemories(t *testing.T) {
	for _, x := range invalidDmas() {
		for _, i := range someNumbers() {
			wantNotMoved(t, x.name+" without a memory", impl.Mem{}, x.list, i, impl.ErrBad)
		}
	}
	for _, y := range invalidMems() {
		for _, i := range someNumbers() {
			wantNotMoved(t, y.name+" without a list", y.mem, nil, i, impl.ErrBad)
			wantNotMoved(t, y.name+" with MaxList channels", y.mem, channelList(impl.MaxList), i, impl.ErrBad)
		}
	}
}

// The other channels are checked too, whether the one that moves is valid or not.
func TestDmaMoveBesideAnInvalidChannel(t *testing.T) {
	for other := range dmaChannels {
		for i := range dmaChannels {
			list := withChannel(oneChannel(i, 20, 120, 3, 1), other, impl.Channel{Up: 2})
			wantNotMoved(t, fmt.Sprint("an invalid channel ", other), patternMem(patternFlash(impl.StRead)), list, i, impl.ErrBad)
		}
	}
}

func TestDmaMoveOfLongLists(t *testing.T) {
	mems := append(invalidMems(), namedMem{"a valid memory", patternMem(patternFlash(impl.StRead))})
	for _, x := range longDmas() {
		for _, y := range mems {
			for _, i := range someNumbers() {
				wantNotMoved(t, x.name+", "+y.name, y.mem, x.list, i, impl.ErrLong)
			}
		}
	}
}
