package tests

import (
	"testing"

	"loop.example/g00563/impl"
)

// noise is a fixed sequence of numbers, so that every run tests the same.
type noise struct{ state uint64 }

func (n *noise) below(limit int) int {
	n.state = n.state*6364136223846793005 + 1442695040888963407
	return int(n.state>>33) % limit
}

func (n *noise) text() string {
	sizes := []int{0, 1, 2, 3, 7, 8, 99, 100, n.below(101)}
	text := make([]byte, sizes[n.below(len(sizes))])
	for i := range text {
		text[i] = byte(n.below(256))
	}
	return string(text)
}

func (n *noise) fates() []int {
	fates := make([]int, n.below(8))
	for i := range fates {
		fates[i] = n.below(3)
	}
	return fates
}

// model keeps the durable bytes of each sector, and what was written since, apart from the program's types.
type model struct {
	sure   [48][]byte
	places []int
	texts  []string
}

func (m *model) write(at int, text string) {
	m.places = append(m.places, at)
	m.texts = append(m.texts, text)
}

func (m *model) read(at int) string {
	last := string(m.sure[at])
	for i, place := range m.places {
		if place == at {
			last = m.texts[i]
		}
	}
	return last
}

// tearInto replaces byte by byte, unlike the program, which joins two parts.
func tearInto(old []byte, text string) []byte {
	out := append([]byte(nil), old...)
	for i := 0; i < len(text)/2; i++ {
		if i < len(out) {
			out[i] = text[i]
		} else {
			out = append(out, text[i])
		}
	}
	return out
}

func (m *model) crash(fates []int) {
	for i, at := range m.places {
		fate := 0
		if len(fates) > 0 {
			fate = fates[i%len(fates)]
		}
		if fate == 1 {
			m.sure[at] = []byte(m.texts[i])
		} else if fate == 2 {
			m.sure[at] = tearInto(m.sure[at], m.texts[i])
		}
	}
	m.places, m.texts = nil, nil
}

func (m *model) compare(t *testing.T, d impl.Disk) {
	t.Helper()
	if !impl.DiskOK(d) || len(d.Cache) != len(m.places) {
		t.Fatal("invalid disk, or writes:", len(d.Cache), "not", len(m.places))
	}
	for at := range m.sure {
		if d.Sure[at] != string(m.sure[at]) {
			t.Fatalf("durable sector %d is %q, not %q", at, d.Sure[at], m.sure[at])
		}
		wantRead(t, d, at, m.read(at))
	}
}

func TestPromise2AgainstModel(t *testing.T) {
	n := &noise{state: 1}
	for range 60 {
		m := &model{}
		d := impl.NewDisk()
		for range 150 {
			switch n.below(12) {
			case 0:
				m.crash([]int{1})
				d = mustFlush(t, d)
			case 1:
				fates := n.fates()
				m.crash(fates)
				d = mustCrash(t, d, fates...)
			default:
				at := []int{0, 1, 2, 47, n.below(48)}[n.below(5)]
				if text := n.text(); len(m.places) < impl.MaxCache {
					m.write(at, text)
					d = mustWrite(t, d, at, text)
				}
			}
			m.compare(t, d)
		}
	}
}

func TestPromise2FlushedSurvives(t *testing.T) {
	n := &noise{state: 2}
	for range 200 {
		d := impl.NewDisk()
		for range n.below(60) {
			d = mustWrite(t, d, n.below(48), n.text())
		}
		want := mustFlush(t, d)
		crashed := mustCrash(t, want, n.fates()...)
		if !equalDisks(crashed, want) {
			t.Fatal("a crash after a flush changes the disk")
		}
	}
}

func TestPromise2OtherSectorsSurvive(t *testing.T) {
	n := &noise{state: 3}
	for range 200 {
		d := impl.NewDisk()
		for at := range impl.Sectors {
			d = mustWrite(t, d, at, n.text())
		}
		d = mustFlush(t, d)
		flushed := d
		written := map[int]bool{}
		for range n.below(20) {
			at := n.below(48)
			written[at] = true
			d = mustWrite(t, d, at, n.text())
		}
		d = mustCrash(t, d, n.fates()...)
		for at := range impl.Sectors {
			if !written[at] && d.Sure[at] != flushed.Sure[at] {
				t.Fatal("a crash changes sector", at, "to which nothing was written")
			}
		}
	}
}

func TestPromise2LostAppliedOrTorn(t *testing.T) {
	texts := []string{"ABCDEF", "12345", ""}
	fate := func(code, i int) int { return code / []int{1, 3, 9}[i] % 3 }
	for code := range 27 {
		d := impl.NewDisk()
		for i := range texts {
			d = mustWrite(t, d, 10+i, "old "+texts[i])
		}
		d = mustFlush(t, d)
		for i, text := range texts {
			d = mustWrite(t, d, 10+i, text)
		}
		d = mustCrash(t, d, fate(code, 0), fate(code, 1), fate(code, 2))
		for i, text := range texts {
			old := "old " + text
			want := []string{old, text, text[:len(text)/2] + old[len(text)/2:]}[fate(code, i)]
			wantRead(t, d, 10+i, want)
		}
	}
}
