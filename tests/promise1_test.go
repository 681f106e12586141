package tests

import (
	"math"
	"slices"
	"testing"

	"loop.example/g00563/impl"
)

const spareMark = "spare"

// spareDisk puts marked elements behind the end of both slices, where a careless append would write.
func spareDisk(d impl.Disk) impl.Disk {
	sure := append([]string(nil), d.Sure...)
	cache := append([]impl.Write(nil), d.Cache...)
	for range 5 {
		sure = append(sure, spareMark)
		cache = append(cache, impl.Write{At: -77, Data: spareMark})
	}
	return impl.Disk{Sure: sure[:len(d.Sure)], Cache: cache[:len(d.Cache)]}
}

func spareIsKept(d impl.Disk) bool {
	sure := d.Sure[len(d.Sure) : len(d.Sure)+5]
	cache := d.Cache[len(d.Cache) : len(d.Cache)+5]
	for i := range 5 {
		if sure[i] != spareMark || cache[i].At != -77 || cache[i].Data != spareMark {
			return false
		}
	}
	return true
}

// scribble overwrites all memory that a disk can reach.
func scribble(d impl.Disk) {
	sure := d.Sure[:cap(d.Sure)]
	for i := range sure {
		sure[i] = "scribble"
	}
	cache := d.Cache[:cap(d.Cache)]
	for i := range cache {
		cache[i] = impl.Write{At: 1234, Data: "scribble"}
	}
}

type diskCall struct {
	name string
	call func(d impl.Disk) (impl.Disk, int)
}

func diskCalls() []diskCall {
	write := func(at int, text string) func(impl.Disk) (impl.Disk, int) {
		return func(d impl.Disk) (impl.Disk, int) { return impl.WriteDisk(d, at, text) }
	}
	crash := func(fates ...int) func(impl.Disk) (impl.Disk, int) {
		return func(d impl.Disk) (impl.Disk, int) { return impl.CrashDisk(d, fates) }
	}
	return []diskCall{
		{"write", write(3, "new text")},
		{"write of nothing", write(0, "")},
		{"write outside", write(48, "a")},
		{"write of 101 bytes", write(0, longText(101))},
		{"write of too many bytes", write(0, longText(impl.MaxText+1))},
		{"flush", impl.FlushDisk},
		{"crash without fates", crash()},
		{"crash that keeps", crash(impl.FaKeep)},
		{"crash that tears", crash(impl.FaTear)},
		{"crash with all fates", crash(impl.FaTear, impl.FaKeep, impl.FaDrop)},
		{"crash with another fate", crash(3)},
		{"crash with too many fates", crash(make([]int, impl.MaxList+1)...)},
	}
}

func allDisks(t *testing.T) []namedDisk {
	return slices.Concat(validDisks(t), shadowDisks(t), invalidDisks())
}

func allCalls() []diskCall {
	return append(diskCalls(), shadowCalls()...)
}

func TestPromise1ArgumentsStay(t *testing.T) {
	for _, x := range allDisks(t) {
		for _, c := range allCalls() {
			d := spareDisk(x.disk)
			c.call(d)
			if !equalDisks(d, x.disk) || !spareIsKept(d) {
				t.Error("argument changed by", c.name, "of", x.name)
			}
		}
		a, b := spareDisk(x.disk), spareDisk(x.disk)
		impl.DiskOK(a)
		impl.ReadDisk(a, 3)
		impl.ReadDisk(a, -1)
		impl.SameDisk(a, b)
		if !equalDisks(a, x.disk) || !equalDisks(b, x.disk) || !spareIsKept(a) || !spareIsKept(b) {
			t.Error("argument changed by DiskOK, ReadDisk or SameDisk of", x.name)
		}
	}
}

func TestPromise1FatesStay(t *testing.T) {
	backing := []int{2, 1, 0, 77, 77}
	impl.CrashDisk(exampleDisk(t), backing[:3])
	impl.CrashDisk(exampleDisk(t), backing[:4])
	impl.CrashDisk(impl.Disk{}, backing[:2])
	for i, want := range []int{2, 1, 0, 77, 77} {
		if backing[i] != want {
			t.Error("fate", i, "becomes", backing[i])
		}
	}
}

func TestPromise1ResultsAreNewMemory(t *testing.T) {
	for _, x := range allDisks(t) {
		for _, c := range allCalls() {
			d := spareDisk(x.disk)
			got, _ := c.call(d)
			scribble(got)
			if !equalDisks(d, x.disk) || !spareIsKept(d) {
				t.Error("the result shares memory with the argument:", c.name, "of", x.name)
			}
			got, _ = c.call(d)
			want := copyDisk(got)
			scribble(d)
			if !equalDisks(got, want) {
				t.Error("the argument shares memory with the result:", c.name, "of", x.name)
			}
		}
	}
	scribble(impl.NewDisk())
	if d := impl.NewDisk(); !impl.DiskOK(d) || d.Sure[0] != "" {
		t.Error("NewDisk returns memory that it returned before")
	}
}

func TestPromise1EqualCallsEqualResults(t *testing.T) {
	for _, x := range allDisks(t) {
		for _, c := range allCalls() {
			first, code := c.call(x.disk)
			for _, other := range allCalls() {
				other.call(exampleDisk(t))
			}
			again, codeAgain := c.call(spareDisk(x.disk))
			if code != codeAgain || !equalDisks(first, again) {
				t.Error("the second call differs:", c.name, "of", x.name)
			}
		}
		for _, at := range []int{0, 3, 47, 48, math.MinInt} {
			first, code := impl.ReadDisk(x.disk, at)
			again, codeAgain := impl.ReadDisk(spareDisk(x.disk), at)
			if first != again || code != codeAgain {
				t.Error("the second ReadDisk differs:", x.name, at)
			}
		}
		if impl.DiskOK(x.disk) != impl.DiskOK(spareDisk(x.disk)) {
			t.Error("the second DiskOK differs:", x.name)
		}
	}
}

func TestPromise1EmptyAndNilAreTheSame(t *testing.T) {
	none := impl.NewDisk()
	none.Cache = nil
	empty := impl.NewDisk()
	empty.Cache = []impl.Write{}
	if !impl.SameDisk(none, empty) || !impl.SameDisk(impl.Disk{}, impl.Disk{Sure: []string{}, Cache: []impl.Write{}}) {
		t.Error("SameDisk distinguishes nil from an empty slice")
	}
	if !impl.DiskOK(none) || !impl.DiskOK(empty) {
		t.Error("DiskOK")
	}
	for _, c := range diskCalls() {
		a, codeA := c.call(none)
		b, codeB := c.call(empty)
		if codeA != codeB || !equalDisks(a, b) {
			t.Error("nil and an empty cache differ:", c.name)
		}
	}
	a, codeA := impl.CrashDisk(exampleDisk(t), nil)
	b, codeB := impl.CrashDisk(exampleDisk(t), []int{})
	if codeA != impl.OK || codeB != impl.OK || !equalDisks(a, b) {
		t.Error("nil and empty fates differ", codeA, codeB)
	}
}

func TestPromise1CodesWithZeroValues(t *testing.T) {
	for _, x := range allDisks(t) {
		for _, c := range diskCalls() {
			got, code := c.call(x.disk)
			switch code {
			case impl.OK:
				if !impl.DiskOK(got) {
					t.Error("an invalid disk without a code:", c.name, "of", x.name)
				}
			case impl.ErrSize, impl.ErrFull:
				if !equalDisks(got, x.disk) {
					t.Error("the disk is not unchanged:", c.name, "of", x.name)
				}
			default:
				if !isZeroDisk(got) {
					t.Error("a disk beside code", code, c.name, "of", x.name)
				}
			}
		}
	}
}

func TestPromise1CodesDoNotDependOnEarlierCalls(t *testing.T) {
	for _, text := range []string{"", "ok", "level", "7a", "a_b", longText(impl.MaxText + 1)} {
		name, code := impl.NameOK(text), impl.CodeOf(text)
		for n := -2; n < 25; n++ {
			word := impl.CodeWord(n)
			impl.CodeOf(word)
			if impl.CodeWord(n) != word {
				t.Error("the second CodeWord differs:", n)
			}
		}
		if impl.NameOK(text) != name || impl.CodeOf(text) != code {
			t.Errorf("the second call differs: %.20q", text)
		}
	}
}
