package tests

import (
	"math"
	"strings"
	"testing"

	"loop.example/g00563/impl"
)

func longText(n int) string {
	return strings.Repeat("0123456789", n/10+1)[:n]
}

func mustWrite(t *testing.T, d impl.Disk, at int, text string) impl.Disk {
	t.Helper()
	next, code := impl.WriteDisk(d, at, text)
	if code != impl.OK || !impl.DiskOK(next) {
		t.Fatalf("WriteDisk to %d of %.20q: code %d", at, text, code)
	}
	return next
}

func mustFlush(t *testing.T, d impl.Disk) impl.Disk {
	t.Helper()
	next, code := impl.FlushDisk(d)
	if code != impl.OK || !impl.DiskOK(next) || len(next.Cache) != 0 {
		t.Fatalf("FlushDisk: code %d, %d writes left", code, len(next.Cache))
	}
	return next
}

func mustCrash(t *testing.T, d impl.Disk, fates ...int) impl.Disk {
	t.Helper()
	next, code := impl.CrashDisk(d, fates)
	if code != impl.OK || !impl.DiskOK(next) || len(next.Cache) != 0 {
		t.Fatalf("CrashDisk with %v: code %d, %d writes left", fates, code, len(next.Cache))
	}
	return next
}

func wantRead(t *testing.T, d impl.Disk, at int, want string) {
	t.Helper()
	if got, code := impl.ReadDisk(d, at); got != want || code != impl.OK {
		t.Errorf("ReadDisk of %d = %.120q, code %d, not %.120q", at, got, code, want)
	}
}

func isZeroDisk(d impl.Disk) bool {
	return len(d.Sure) == 0 && len(d.Cache) == 0
}

// equalDisks does not use SameDisk, so that a wrong SameDisk cannot hide another mistake.
func equalDisks(a, b impl.Disk) bool {
	if len(a.Sure) != len(b.Sure) || len(a.Cache) != len(b.Cache) {
		return false
	}
	for i := range a.Sure {
		if a.Sure[i] != b.Sure[i] {
			return false
		}
	}
	for i := range a.Cache {
		if a.Cache[i].At != b.Cache[i].At || a.Cache[i].Data != b.Cache[i].Data {
			return false
		}
	}
	return true
}

func copyDisk(d impl.Disk) impl.Disk {
	return impl.Disk{
		Sure:  append([]string(nil), d.Sure...),
		Cache: append([]impl.Write(nil), d.Cache...),
	}
}

// exampleDisk is the disk of the examples of chapter 2.
func exampleDisk(t *testing.T) impl.Disk {
	t.Helper()
	d := mustWrite(t, impl.NewDisk(), 3, "abcd")
	d = mustFlush(t, mustWrite(t, d, 4, "xy"))
	d = mustWrite(t, d, 3, "ABCDE")
	d = mustWrite(t, d, 3, "12")
	return mustWrite(t, d, 5, "new")
}

func cachedDisk(writes int) impl.Disk {
	d := impl.NewDisk()
	for i := 0; i < writes; i++ {
		d.Cache = append(d.Cache, impl.Write{At: i % impl.Sectors, Data: longText(i % 7)})
	}
	return d
}

func withSector(at int, text string) impl.Disk {
	d := impl.NewDisk()
	d.Sure[at] = text
	return d
}

func withWrites(writes ...impl.Write) impl.Disk {
	d := impl.NewDisk()
	d.Cache = writes
	return d
}

type namedDisk struct {
	name string
	disk impl.Disk
}

func invalidDisks() []namedDisk {
	full := cachedDisk(impl.MaxCache)
	full.Cache[impl.MaxCache-1].At = impl.Sectors
	return []namedDisk{
		{"zero", impl.Disk{}},
		{"no sectors but a write", impl.Disk{Cache: []impl.Write{{At: 0, Data: "a"}}}},
		{"one sector", impl.Disk{Sure: make([]string, 1)}},
		{"47 sectors", impl.Disk{Sure: make([]string, 47)}},
		{"49 sectors", impl.Disk{Sure: make([]string, 49)}},
		{"MaxList + 1 sectors", impl.Disk{Sure: make([]string, impl.MaxList+1)}},
		{"101 bytes in sector 0", withSector(0, longText(101))},
		{"101 bytes in sector 47", withSector(47, longText(101))},
		{"MaxText + 1 bytes in sector 9", withSector(9, longText(impl.MaxText+1))},
		{"61 writes", cachedDisk(61)},
		{"MaxList + 1 writes", cachedDisk(impl.MaxList + 1)},
		{"a write to sector -1", withWrites(impl.Write{At: -1})},
		{"a write to sector 48", withWrites(impl.Write{At: 48})},
		{"a write to the least sector", withWrites(impl.Write{At: math.MinInt})},
		{"a write to the greatest sector", withWrites(impl.Write{At: math.MaxInt})},
		{"a write of 101 bytes", withWrites(impl.Write{At: 1}, impl.Write{At: 0, Data: longText(101)})},
		{"a last write that is invalid", full},
	}
}

func validDisks(t *testing.T) []namedDisk {
	wide := cachedDisk(impl.MaxCache)
	for i := range wide.Sure {
		wide.Sure[i] = longText(impl.MaxBytes)
	}
	for i := range wide.Cache {
		wide.Cache[i] = impl.Write{At: impl.Sectors - 1 - i%impl.Sectors, Data: strings.Repeat("w", impl.MaxBytes)}
	}
	return []namedDisk{
		{"new", impl.NewDisk()},
		{"new with an empty cache", impl.Disk{Sure: make([]string, impl.Sectors), Cache: []impl.Write{}}},
		{"example", exampleDisk(t)},
		{"59 writes", cachedDisk(59)},
		{"60 writes", cachedDisk(60)},
		{"everything as large as possible", wide},
		{"bytes of any value", withWrites(impl.Write{At: 0, Data: "\x00\xff\n"}, impl.Write{At: 47, Data: ""})},
	}
}
