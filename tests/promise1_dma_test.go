package tests

import (
	"fmt"
	"slices"
	"testing"

	"loop.example/g00563/impl"
)

func markedChannels() []impl.Channel {
	return slices.Repeat([]impl.Channel{{Src: -77, Dst: -77, Left: -77, Up: -77}}, 5)
}

// spareChannels puts marked elements behind the end, where a careless append would write.
func spareChannels(list []impl.Channel) []impl.Channel {
	return slices.Concat(list, markedChannels())[:len(list)]
}

func channelsStay(list, want []impl.Channel) bool {
	return slices.Equal(list, want) && slices.Equal(list[len(list):len(list)+5], markedChannels())
}

func scribbleChannels(list []impl.Channel) {
	list = list[:cap(list)]
	for i := range list {
		list[i] = impl.Channel{Src: 1234, Dst: 1234, Left: 1234, Up: 1234}
	}
}

type dmaResult struct {
	mem  impl.Mem
	list []impl.Channel
	last bool
	code int
}

func (r dmaResult) equal(other dmaResult) bool {
	return equalMems(r.mem, other.mem) && slices.Equal(r.list, other.list) && r.last == other.last && r.code == other.code
}

func (r dmaResult) clone() dmaResult {
	return dmaResult{copyMem(r.mem), slices.Clone(r.list), r.last, r.code}
}

func (r dmaResult) scribble() {
	scribbleMem(r.mem)
	scribbleChannels(r.list)
}

type dmaCall struct {
	name string
	call func(m impl.Mem, list []impl.Channel) dmaResult
}

// dmaCalls are every channel and the numbers beside them.
func dmaCalls() []dmaCall {
	var all []dmaCall
	for i := -1; i <= dmaChannels; i++ {
		all = append(all, dmaCall{fmt.Sprint("DmaMove of channel ", i), func(m impl.Mem, list []impl.Channel) dmaResult {
			x, next, last, code := impl.DmaMove(m, list, i)
			return dmaResult{x, next, last, code}
		}})
		for _, c := range []impl.Channel{{}, patternDma()[1], {Up: 2}} {
			name := fmt.Sprint("SetChannel of channel ", i, " to ", c)
			all = append(all, dmaCall{name, func(_ impl.Mem, list []impl.Channel) dmaResult {
				next, code := impl.SetChannel(list, i, c)
				return dmaResult{list: next, code: code}
			}})
		}
	}
	return all
}

type dmaState struct {
	name string
	mem  impl.Mem
	list []impl.Channel
}

// dmaStates have moves from and to every area, channels without bytes, and invalid arguments of both kinds.
func dmaStates() []dmaState {
	m := patternMem(patternFlash(impl.StRead, 2))
	all := []dmaState{{"both invalid", impl.Mem{}, nil}, {"a flash that programs", patternMem(patternFlash(impl.StProgram)), patternDma()}}
	for _, x := range allDmas() {
		all = append(all, dmaState{x.name, m, x.list})
	}
	for _, at := range edgeAddresses() {
		all = append(all,
			dmaState{fmt.Sprint("from ", at), m, withChannel(patternDma(), 0, impl.Channel{Src: at, Dst: 40, Left: 2, Up: 1})},
			dmaState{fmt.Sprint("to ", at), m, withChannel(patternDma(), 0, impl.Channel{Src: 40, Dst: at, Left: 1})})
	}
	for _, y := range allMems() {
		all = append(all, dmaState{y.name, y.mem, patternDma()})
	}
	return all
}

func TestPromise1DmaArgumentsStay(t *testing.T) {
	for _, x := range dmaStates() {
		m, list := spareMem(x.mem), spareChannels(x.list)
		impl.DmaOK(list)
		for _, f := range dmaCalls() {
			f.call(m, list)
			if !memStays(m, x.mem) || !channelsStay(list, x.list) {
				t.Fatal("argument changed by", f.name, "of", x.name)
			}
		}
	}
}

func TestPromise1DmaResultsAreNewMemory(t *testing.T) {
	for _, x := range dmaStates() {
		for _, f := range dmaCalls() {
			m, list := spareMem(x.mem), spareChannels(x.list)
			f.call(m, list).scribble()
			if !memStays(m, x.mem) || !channelsStay(list, x.list) {
				t.Error("the result shares memory with the argument:", f.name, "of", x.name)
			}
			m, list = spareMem(x.mem), spareChannels(x.list)
			got := f.call(m, list)
			want := got.clone()
			scribbleMem(m)
			scribbleChannels(list)
			if !got.equal(want) {
				t.Error("the argument shares memory with the result:", f.name, "of", x.name)
			}
		}
	}
}

func TestPromise1DmaResultsAreApart(t *testing.T) {
	for _, x := range dmaStates() {
		for _, f := range dmaCalls() {
			first, second := f.call(x.mem, x.list), f.call(x.mem, x.list)
			want := second.clone()
			first.scribble()
			if !second.equal(want) {
				t.Error("two results share memory:", f.name, "of", x.name)
			}
			wantApart(t, f.name+" of "+x.name, second.mem)
		}
	}
	scribbleChannels(impl.NewDma())
	first, second := impl.NewDma(), impl.NewDma()
	scribbleChannels(first)
	wantDma(t, "NewDma after another one", second, idleDma(), impl.OK)
}

func TestPromise1DmaEqualCallsEqualResults(t *testing.T) {
	other := patternMem(patternFlash(impl.StErase2))
	for _, x := range dmaStates() {
		ok := impl.DmaOK(x.list)
		for _, f := range dmaCalls() {
			first := f.call(x.mem, x.list)
			for _, g := range dmaCalls()[:8] {
				g.call(other, patternDma())
			}
			if again := f.call(spareMem(x.mem), spareChannels(x.list)); !first.equal(again) {
				t.Error("the second call differs:", f.name, "of", x.name)
			}
		}
		if impl.DmaOK(spareChannels(x.list)) != ok {
			t.Error("the second DmaOK differs:", x.name)
		}
	}
	wantDma(t, "NewDma after all", impl.NewDma(), idleDma(), impl.OK)
}

func TestPromise1DmaEmptyAndNilAreTheSame(t *testing.T) {
	m := patternMem(patternFlash(impl.StRead))
	emptyMem := impl.Mem{Ram: []int{}, Io: []int{}, Flash: impl.Flash{Cells: []int{}, Guard: []bool{}}}
	for _, list := range [][]impl.Channel{nil, {}, idleDma()[:0]} {
		if impl.DmaOK(list) {
			t.Error("DmaOK without channels")
		}
		for _, i := range someNumbers() {
			got, code := impl.SetChannel(list, i, impl.Channel{})
			wantNoDma(t, "SetChannel without channels", got, code, impl.ErrBad)
			wantNotMoved(t, "no channels", m, list, i, impl.ErrBad)
		}
	}
	for _, y := range []impl.Mem{{}, emptyMem} {
		for _, i := range someNumbers() {
			wantNotMoved(t, "no memory", y, patternDma(), i, impl.ErrBad)
		}
	}
}
