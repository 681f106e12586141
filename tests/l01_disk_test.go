package tests

import (
	"math"
	"strings"
	"testing"

	"loop.example/g00563/impl"
)

func TestDiskConstants(t *testing.T) {
	if impl.Sectors != 48 || impl.MaxBytes != 100 || impl.MaxCache != 60 {
		t.Error("sizes", impl.Sectors, impl.MaxBytes, impl.MaxCache)
	}
	if impl.FaDrop != 0 || impl.FaKeep != 1 || impl.FaTear != 2 {
		t.Error("fates", impl.FaDrop, impl.FaKeep, impl.FaTear)
	}
}

func TestNewDisk(t *testing.T) {
	d := impl.NewDisk()
	if len(d.Sure) != impl.Sectors || len(d.Cache) != 0 || !impl.DiskOK(d) {
		t.Fatal(len(d.Sure), len(d.Cache))
	}
	for at := 0; at < impl.Sectors; at++ {
		wantRead(t, d, at, "")
	}
}

func TestChapter2Examples(t *testing.T) {
	d := exampleDisk(t)
	wantRead(t, d, 3, "12")
	wantRead(t, d, 4, "xy")
	if got, code := impl.ReadDisk(d, 48); got != "" || code != impl.ErrRange {
		t.Error("ReadDisk of 48", got, code)
	}
	wantRead(t, mustCrash(t, d), 3, "abcd")
	kept := mustCrash(t, d, impl.FaKeep, impl.FaDrop)
	wantRead(t, kept, 3, "ABCDE")
	wantRead(t, kept, 5, "new")
	torn := mustCrash(t, d, impl.FaTear, impl.FaDrop, impl.FaTear)
	wantRead(t, torn, 3, "ABcd")
	wantRead(t, torn, 5, "n")
	if _, code := impl.WriteDisk(d, 0, longText(101)); code != impl.ErrSize {
		t.Error("WriteDisk of 101 bytes", code)
	}
	if _, code := impl.CrashDisk(d, []int{-1}); code != impl.ErrRange {
		t.Error("CrashDisk with -1", code)
	}
}

func TestDiskOK(t *testing.T) {
	for _, x := range validDisks(t) {
		if !impl.DiskOK(x.disk) {
			t.Error("not valid:", x.name)
		}
	}
	for _, x := range invalidDisks() {
		if impl.DiskOK(x.disk) {
			t.Error("valid:", x.name)
		}
	}
}

func TestInvalidDisksAreErrBadFirst(t *testing.T) {
	for _, x := range invalidDisks() {
		for _, at := range []int{0, 47, -1, 48, math.MinInt} {
			if got, code := impl.ReadDisk(x.disk, at); code != impl.ErrBad || got != "" {
				t.Error("ReadDisk", x.name, at, code)
			}
			for _, n := range []int{0, 1, 101, impl.MaxText} {
				if got, code := impl.WriteDisk(x.disk, at, longText(n)); code != impl.ErrBad || !isZeroDisk(got) {
					t.Error("WriteDisk", x.name, at, n, code)
				}
			}
		}
		if got, code := impl.FlushDisk(x.disk); code != impl.ErrBad || !isZeroDisk(got) {
			t.Error("FlushDisk", x.name, code)
		}
		for _, fates := range [][]int{nil, {impl.FaKeep}, {-1}, {3}, make([]int, impl.MaxList)} {
			if got, code := impl.CrashDisk(x.disk, fates); code != impl.ErrBad || !isZeroDisk(got) {
				t.Error("CrashDisk", x.name, len(fates), code)
			}
		}
	}
}

func TestErrLongPrecedesAllCodes(t *testing.T) {
	text := longText(impl.MaxText + 1)
	fates := make([]int, impl.MaxList+1)
	fates[0] = -1
	disks := append(invalidDisks(), validDisks(t)...)
	for _, x := range disks {
		for _, at := range []int{0, -1, 48} {
			if got, code := impl.WriteDisk(x.disk, at, text); code != impl.ErrLong || !isZeroDisk(got) {
				t.Error("WriteDisk", x.name, at, code)
			}
		}
		if got, code := impl.CrashDisk(x.disk, fates); code != impl.ErrLong || !isZeroDisk(got) {
			t.Error("CrashDisk", x.name, code)
		}
	}
}

func TestSectorsOutOfRange(t *testing.T) {
	for _, x := range validDisks(t) {
		for _, at := range []int{-1, 48, -48, 1000, math.MinInt, math.MaxInt} {
			if got, code := impl.ReadDisk(x.disk, at); code != impl.ErrRange || got != "" {
				t.Error("ReadDisk", x.name, at, code)
			}
			for _, n := range []int{0, 100, 101, impl.MaxText} {
				if got, code := impl.WriteDisk(x.disk, at, longText(n)); code != impl.ErrRange || !isZeroDisk(got) {
					t.Error("WriteDisk", x.name, at, n, code)
				}
			}
		}
	}
}

func TestReadDiskFindsTheLastWrite(t *testing.T) {
	for _, at := range []int{0, 1, 46, 47} {
		d := impl.NewDisk()
		d = mustFlush(t, mustWrite(t, d, at, "sure"))
		wantRead(t, d, at, "sure")
		d = mustWrite(t, d, at, "first")
		wantRead(t, d, at, "first")
		d = mustWrite(t, d, (at+1)%impl.Sectors, "beside")
		wantRead(t, d, at, "first")
		d = mustWrite(t, d, at, "second")
		wantRead(t, d, at, "second")
		d = mustWrite(t, d, at, "")
		wantRead(t, d, at, "")
		wantRead(t, d, (at+1)%impl.Sectors, "beside")
		if d.Sure[at] != "sure" {
			t.Error("a cached write is durable", at, d.Sure[at])
		}
	}
}

func TestWriteDiskAppends(t *testing.T) {
	d := impl.NewDisk()
	d = mustWrite(t, d, 47, "last")
	d = mustWrite(t, d, 0, "")
	d = mustWrite(t, d, 47, "\x00\xff")
	want := withWrites(impl.Write{At: 47, Data: "last"}, impl.Write{At: 0}, impl.Write{At: 47, Data: "\x00\xff"})
	if !equalDisks(d, want) {
		t.Error(d.Cache)
	}
}

func TestWriteDiskSizes(t *testing.T) {
	d := exampleDisk(t)
	for _, n := range []int{0, 1, 99, 100} {
		wantRead(t, mustWrite(t, d, 7, longText(n)), 7, longText(n))
	}
	for _, n := range []int{101, 102, impl.MaxText - 1, impl.MaxText} {
		if got, code := impl.WriteDisk(d, 7, longText(n)); code != impl.ErrSize || !equalDisks(got, d) {
			t.Error("WriteDisk of", n, "bytes", code)
		}
	}
}

func TestWriteDiskCacheLimit(t *testing.T) {
	d := mustWrite(t, cachedDisk(59), 0, "the last one")
	if len(d.Cache) != 60 {
		t.Error("59 writes become", len(d.Cache))
	}
	wantRead(t, d, 0, "the last one")
	for _, n := range []int{0, 100} {
		if got, code := impl.WriteDisk(d, 0, longText(n)); code != impl.ErrFull || !equalDisks(got, d) {
			t.Error("WriteDisk with 60 writes", n, code)
		}
	}
	for _, n := range []int{101, impl.MaxText} {
		if got, code := impl.WriteDisk(d, 0, longText(n)); code != impl.ErrSize || !equalDisks(got, d) {
			t.Error("ErrSize precedes ErrFull", n, code)
		}
	}
	if got, code := impl.WriteDisk(cachedDisk(61), 0, ""); code != impl.ErrBad || !isZeroDisk(got) {
		t.Error("WriteDisk with 61 writes", code)
	}
	mustWrite(t, mustFlush(t, d), 0, "there is room again")
}

func TestFlushDisk(t *testing.T) {
	d := mustFlush(t, exampleDisk(t))
	want := impl.NewDisk()
	want.Sure[3], want.Sure[4], want.Sure[5] = "12", "xy", "new"
	if !equalDisks(d, want) {
		t.Error(d.Sure)
	}
	if again := mustFlush(t, d); !equalDisks(again, want) {
		t.Error("a flush without writes changes", again.Sure)
	}
	for _, n := range []int{59, 60} {
		before := cachedDisk(n)
		after := mustFlush(t, before)
		for at := 0; at < impl.Sectors; at++ {
			last, _ := impl.ReadDisk(before, at)
			wantRead(t, after, at, last)
		}
	}
	if got, code := impl.FlushDisk(cachedDisk(61)); code != impl.ErrBad || !isZeroDisk(got) {
		t.Error("FlushDisk of 61 writes", code)
	}
}

func TestCrashDiskEachFate(t *testing.T) {
	d := mustFlush(t, mustWrite(t, impl.NewDisk(), 47, "before"))
	d = mustWrite(t, d, 47, "AFTER!")
	wantRead(t, mustCrash(t, d, impl.FaDrop), 47, "before")
	wantRead(t, mustCrash(t, d, impl.FaKeep), 47, "AFTER!")
	wantRead(t, mustCrash(t, d, impl.FaTear), 47, "AFTore")
}

func TestCrashDiskTear(t *testing.T) {
	cases := []struct{ old, data, want string }{
		{"abcd", "WXYZ", "WXcd"},
		{"abcd", "VWXYZ", "VWcd"},
		{"abcd", "W", "abcd"},
		{"abcd", "WX", "Wbcd"},
		{"abcd", "WXY", "Wbcd"},
		{"abcd", "", "abcd"},
		{"", "", ""},
		{"", "W", ""},
		{"", "WX", "W"},
		{"", "WXYZ5", "WX"},
		{"a", "WX", "W"},
		{"a", "WXYZ", "WX"},
		{"ab", "WXYZ", "WX"},
		{"abc", "WXYZ", "WXc"},
		{"ab", "UVWXYZ", "UVW"},
		{"abcdefgh", "WXYZ", "WXcdefgh"},
		{longText(100), strings.Repeat("W", 100), strings.Repeat("W", 50) + longText(100)[50:]},
		{longText(100), strings.Repeat("W", 99), strings.Repeat("W", 49) + longText(100)[49:]},
		{"", strings.Repeat("W", 100), strings.Repeat("W", 50)},
		{longText(100), "", longText(100)},
	}
	for _, c := range cases {
		d := mustFlush(t, mustWrite(t, impl.NewDisk(), 20, c.old))
		wantRead(t, mustCrash(t, mustWrite(t, d, 20, c.data), impl.FaTear), 20, c.want)
	}
}

func TestCrashDiskEmptyData(t *testing.T) {
	d := mustFlush(t, mustWrite(t, impl.NewDisk(), 2, "abc"))
	d = mustWrite(t, d, 2, "")
	wantRead(t, mustCrash(t, d, impl.FaDrop), 2, "abc")
	wantRead(t, mustCrash(t, d, impl.FaKeep), 2, "")
	wantRead(t, mustCrash(t, d, impl.FaTear), 2, "abc")
}

func TestCrashDiskSeveralWritesToOneSector(t *testing.T) {
	d := mustFlush(t, mustWrite(t, impl.NewDisk(), 9, "abcdef"))
	for _, text := range []string{"ABCD", "123456", "xy"} {
		d = mustWrite(t, d, 9, text)
	}
	const drop, keep, tear = impl.FaDrop, impl.FaKeep, impl.FaTear
	cases := []struct {
		fates []int
		want  string
	}{
		{[]int{drop, drop, drop}, "abcdef"},
		{[]int{keep, drop, drop}, "ABCD"},
		{[]int{drop, keep, drop}, "123456"},
		{[]int{drop, drop, keep}, "xy"},
		{[]int{keep, keep, drop}, "123456"},
		{[]int{tear, drop, drop}, "ABcdef"},
		{[]int{tear, tear, drop}, "123def"},
		{[]int{keep, tear, drop}, "123D"},
		{[]int{keep, tear, tear}, "x23D"},
		{[]int{tear, tear, tear}, "x23def"},
		{[]int{tear, keep, tear}, "x23456"},
		{[]int{tear, drop, tear}, "xBcdef"},
		{[]int{tear, tear, keep}, "xy"},
	}
	for _, c := range cases {
		wantRead(t, mustCrash(t, d, c.fates...), 9, c.want)
	}
}

func TestCrashDiskFatesRepeat(t *testing.T) {
	d := impl.NewDisk()
	for at := 0; at < 7; at++ {
		d = mustWrite(t, d, at, "ab")
	}
	one := map[int]string{impl.FaDrop: "", impl.FaKeep: "ab", impl.FaTear: "a"}
	for _, fates := range [][]int{{2}, {1, 0}, {0, 1}, {2, 1, 0}, {1, 1, 0, 2, 2, 0}, {0, 1, 2, 0, 1, 2, 1}} {
		after := mustCrash(t, d, fates...)
		for at := 0; at < 7; at++ {
			wantRead(t, after, at, one[fates[at%len(fates)]])
		}
	}
	for at, s := range mustCrash(t, d).Sure {
		if s != "" {
			t.Error("without fates a write is applied", at, s)
		}
	}
	more := []int{1, 0, 2, 1, 0, 2, 1, 2, 2, 2, 0, 1}
	if !equalDisks(mustCrash(t, d, more...), mustCrash(t, d, more[:7]...)) {
		t.Error("fates without a write count")
	}
}

func TestCrashDiskOtherFates(t *testing.T) {
	for _, x := range validDisks(t) {
		for _, fate := range []int{-1, 3, 4, -2, 256, 257, math.MinInt, math.MaxInt} {
			for _, fates := range [][]int{{fate}, {impl.FaKeep, fate}, append(make([]int, 100), fate), append(make([]int, impl.MaxList-1), fate)} {
				if got, code := impl.CrashDisk(x.disk, fates); code != impl.ErrRange || !isZeroDisk(got) {
					t.Error("CrashDisk", x.name, fate, len(fates), code)
				}
			}
		}
	}
}

func TestCrashDiskManyFates(t *testing.T) {
	d := exampleDisk(t)
	fates := make([]int, impl.MaxList)
	fates[2] = impl.FaKeep
	after := mustCrash(t, d, fates...)
	wantRead(t, after, 3, "abcd")
	wantRead(t, after, 5, "new")
	if got, code := impl.CrashDisk(d, append(fates, impl.FaDrop)); code != impl.ErrLong || !isZeroDisk(got) {
		t.Error("CrashDisk with MaxList + 1 fates", code)
	}
}

func TestCrashDiskWithoutWrites(t *testing.T) {
	d := mustFlush(t, exampleDisk(t))
	for _, fates := range [][]int{nil, {impl.FaDrop}, {impl.FaKeep}, {impl.FaTear}} {
		if after := mustCrash(t, d, fates...); !equalDisks(after, d) {
			t.Error("a crash changes flushed sectors", fates)
		}
	}
}

func TestSameDisk(t *testing.T) {
	all := append(validDisks(t), invalidDisks()...)
	for _, x := range all {
		if !impl.SameDisk(x.disk, x.disk) || !impl.SameDisk(x.disk, copyDisk(x.disk)) {
			t.Error("not the same:", x.name)
		}
		for _, y := range all {
			if impl.SameDisk(x.disk, y.disk) != equalDisks(x.disk, y.disk) {
				t.Error("SameDisk of", x.name, "and", y.name)
			}
		}
	}
}

func TestSameDiskSeesEachField(t *testing.T) {
	for _, base := range []impl.Disk{exampleDisk(t), invalidDisks()[len(invalidDisks())-1].disk} {
		changes := map[string]func(d *impl.Disk){
			"the first sector":   func(d *impl.Disk) { d.Sure[0] += "x" },
			"the last sector":    func(d *impl.Disk) { d.Sure[len(d.Sure)-1] += "x" },
			"a missing sector":   func(d *impl.Disk) { d.Sure = d.Sure[:len(d.Sure)-1] },
			"one more sector":    func(d *impl.Disk) { d.Sure = append(d.Sure, "") },
			"data of a write":    func(d *impl.Disk) { d.Cache[len(d.Cache)-1].Data += "x" },
			"sector of a write":  func(d *impl.Disk) { d.Cache[0].At++ },
			"a missing write":    func(d *impl.Disk) { d.Cache = d.Cache[:len(d.Cache)-1] },
			"one more write":     func(d *impl.Disk) { d.Cache = append(d.Cache, impl.Write{}) },
			"no write":           func(d *impl.Disk) { d.Cache = nil },
			"no sector":          func(d *impl.Disk) { d.Sure = nil },
			"the order of write": func(d *impl.Disk) { d.Cache[0], d.Cache[1] = d.Cache[1], d.Cache[0] },
		}
		for name, change := range changes {
			other := copyDisk(base)
			change(&other)
			if impl.SameDisk(base, other) || impl.SameDisk(other, base) {
				t.Error("SameDisk does not see", name)
			}
		}
	}
}
