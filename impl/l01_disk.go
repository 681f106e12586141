package impl

import "slices"

const (
	Sectors  = 48
	MaxBytes = 100
	MaxCache = 60
)

const (
	FaDrop = iota
	FaKeep
	FaTear
)

type Write struct {
	At   int
	Data string
}

type Disk struct {
	Sure  []string
	Cache []Write
}

func isSector(at int) bool {
	return at >= 0 && at < Sectors
}

func isFate(fate int) bool {
	return fate >= FaDrop && fate <= FaTear
}

func allFates(fates []int) bool {
	for _, fate := range fates {
		if !isFate(fate) {
			return false
		}
	}
	return true
}

// The length counts too: applying a longer write would leave an invalid disk.
func (w Write) valid() bool {
	return isSector(w.At) && len(w.Data) <= MaxBytes
}

func (d Disk) valid() bool {
	if len(d.Sure) != Sectors || len(d.Cache) > MaxCache {
		return false
	}
	for _, s := range d.Sure {
		if len(s) > MaxBytes {
			return false
		}
	}
	for _, w := range d.Cache {
		if !w.valid() {
			return false
		}
	}
	return true
}

func (d Disk) sectors() []string {
	sure := make([]string, len(d.Sure))
	copy(sure, d.Sure)
	return sure
}

func (d Disk) clone() Disk {
	cache := make([]Write, len(d.Cache))
	copy(cache, d.Cache)
	return Disk{Sure: d.sectors(), Cache: cache}
}

// The old content is that of the moment the write is processed, so a torn
// write may also mix with an earlier write of the same crash.
func tear(old, data string) string {
	half := len(data) / 2
	if half >= len(old) {
		return data[:half]
	}
	return data[:half] + old[half:]
}

func fateOf(fates []int, i int) int {
	if len(fates) == 0 {
		return FaDrop
	}
	return fates[i%len(fates)]
}

func (d Disk) settle(fates []int) Disk {
	sure := d.sectors()
	for i, w := range d.Cache {
		switch fateOf(fates, i) {
		case FaKeep:
			sure[w.At] = w.Data
		case FaTear:
			sure[w.At] = tear(sure[w.At], w.Data)
		}
	}
	return Disk{Sure: sure}
}

func (d Disk) content(at int) string {
	for i := len(d.Cache) - 1; i >= 0; i-- {
		if d.Cache[i].At == at {
			return d.Cache[i].Data
		}
	}
	return d.Sure[at]
}

func NewDisk() Disk {
	return Disk{Sure: make([]string, Sectors)}
}

func DiskOK(d Disk) bool {
	return d.valid()
}

func ReadDisk(d Disk, at int) (string, int) {
	if !d.valid() {
		return "", ErrBad
	}
	if !isSector(at) {
		return "", ErrRange
	}
	return d.content(at), OK
}

func WriteDisk(d Disk, at int, t string) (Disk, int) {
	if len(t) > MaxText {
		return Disk{}, ErrLong
	}
	if !d.valid() {
		return Disk{}, ErrBad
	}
	if !isSector(at) {
		return Disk{}, ErrRange
	}
	next := d.clone()
	if len(t) > MaxBytes {
		return next, ErrSize
	}
	if len(d.Cache) >= MaxCache {
		return next, ErrFull
	}
	next.Cache = append(next.Cache, Write{At: at, Data: t})
	return next, OK
}

func FlushDisk(d Disk) (Disk, int) {
	if !d.valid() {
		return Disk{}, ErrBad
	}
	return d.settle([]int{FaKeep}), OK
}

func CrashDisk(d Disk, fates []int) (Disk, int) {
	if len(fates) > MaxList {
		return Disk{}, ErrLong
	}
	if !d.valid() {
		return Disk{}, ErrBad
	}
	if !allFates(fates) {
		return Disk{}, ErrRange
	}
	return d.settle(fates), OK
}

func SameDisk(a, b Disk) bool {
	return slices.Equal(a.Sure, b.Sure) && slices.Equal(a.Cache, b.Cache)
}
