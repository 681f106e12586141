package tests

import (
	"testing"

	"loop.example/g00563/impl"
)

// followDay ticks for a day. It checks that each second follows the one before, and returns the clock behind the day and the seconds of the alarms.
func followDay(t *testing.T, r impl.Rtc) (impl.Rtc, []int) {
	t.Helper()
	var alarms []int
	for range daySeconds {
		next, alarm := mustTickRtc(t, r)
		if secondOf(next) != (secondOf(r)+1)%daySeconds {
			t.Fatal(next, "does not follow", r)
		}
		if next.Alarm != r.Alarm || next.AlarmHour != r.AlarmHour || next.AlarmMin != r.AlarmMin {
			t.Fatal("a tick changes the alarm of", r, "to that of", next)
		}
		if alarm {
			alarms = append(alarms, secondOf(next))
		}
		r = next
	}
	return r, alarms
}

func checkPromise12(t *testing.T, r impl.Rtc) {
	t.Helper()
	after, alarms := followDay(t, r)
	if after != r {
		t.Error("a day after", r, "the clock is", after)
	}
	if !r.Alarm {
		if len(alarms) != 0 {
			t.Error("an alarm without Alarm:", r, alarms)
		}
		return
	}
	if begin := 3600*r.AlarmHour + 60*r.AlarmMin; len(alarms) != 1 || alarms[0] != begin {
		t.Error("the alarms of", r, "occur in the seconds", alarms, "and not only in", begin)
	}
}

func TestPromise12Days(t *testing.T) {
	for _, second := range []int{0, 1, 59, 60, 3599, 3600, 40000, 43200, daySeconds - 60, daySeconds - 1} {
		for _, minute := range []int{0, 1, 59, 60, 61, 666, 719, 720, 1380, dayMinutes - 2, dayMinutes - 1} {
			checkPromise12(t, withAlarm(clockAt(second), true, minute))
		}
		for _, minute := range []int{0, second / 60, dayMinutes - 1} {
			checkPromise12(t, withAlarm(clockAt(second), false, minute))
		}
	}
}

// The day may begin in the minute of the alarm, one second before it, or just behind it.
func TestPromise12DaysThatBeginAtTheAlarm(t *testing.T) {
	for _, minute := range []int{0, 1, 60, 805, dayMinutes - 1} {
		for _, far := range []int{-1, 0, 1, 59, 60} {
			second := (60*minute + far + daySeconds) % daySeconds
			checkPromise12(t, withAlarm(clockAt(second), true, minute))
			checkPromise12(t, withAlarm(clockAt(second), false, minute))
		}
	}
}

func TestPromise12AnyDays(t *testing.T) {
	n := &noise{state: 12}
	for range 60 {
		checkPromise12(t, withAlarm(clockAt(n.below(daySeconds)), n.below(3) > 0, n.below(dayMinutes)))
	}
}

func TestPromise12TwoDays(t *testing.T) {
	r := mustSetAlarm(t, impl.Rtc{Hour: 12, Sec: 1}, 0, 0)
	for range 2 {
		checkPromise12(t, r)
		r, _ = followDay(t, r)
	}
}

// The time does not depend on the alarm.
func TestPromise12AnyAlarmTheSameTime(t *testing.T) {
	n := &noise{state: 13}
	for second := range daySeconds {
		for _, set := range []bool{false, true} {
			next, _ := mustTickRtc(t, withAlarm(clockAt(second), set, n.below(dayMinutes)))
			if secondOf(next) != (second+1)%daySeconds {
				t.Fatal("the clock is", next, "after second", second)
			}
		}
	}
}

func TestPromise12NumbersAreRecovered(t *testing.T) {
	seen := map[int]bool{}
	for n := range 100 {
		coded, code := impl.ToBcd(n)
		if code != impl.OK || coded < 0 || coded > 255 || seen[coded] {
			t.Error("ToBcd of", n, "is", coded, "code", code)
		}
		seen[coded] = true
		wantFromBcd(t, coded, n, impl.OK)
	}
	for coded := range 256 {
		n, code := impl.FromBcd(coded)
		if (code == impl.OK) != seen[coded] {
			t.Error("FromBcd of", coded, "is", n, "code", code)
		}
		if code == impl.OK {
			wantToBcd(t, n, coded, impl.OK)
		}
	}
}
