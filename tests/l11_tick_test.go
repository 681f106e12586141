package tests

import (
	"testing"

	"loop.example/g00563/impl"
)

func TestTickRtcByHand(t *testing.T) {
	for _, c := range []struct{ r, want impl.Rtc }{
		{impl.Rtc{}, impl.Rtc{Sec: 1}},
		{impl.Rtc{Sec: 58}, impl.Rtc{Sec: 59}},
		{impl.Rtc{Sec: 59}, impl.Rtc{Min: 1}},
		{impl.Rtc{Min: 58, Sec: 59}, impl.Rtc{Min: 59}},
		{impl.Rtc{Min: 59, Sec: 58}, impl.Rtc{Min: 59, Sec: 59}},
		{impl.Rtc{Min: 59, Sec: 59}, impl.Rtc{Hour: 1}},
		{impl.Rtc{Hour: 22, Min: 59, Sec: 59}, impl.Rtc{Hour: 23}},
		{impl.Rtc{Hour: 23, Min: 59, Sec: 58}, impl.Rtc{Hour: 23, Min: 59, Sec: 59}},
		{impl.Rtc{Hour: 23, Min: 58, Sec: 59}, impl.Rtc{Hour: 23, Min: 59}},
		{impl.Rtc{Hour: 23, Min: 59}, impl.Rtc{Hour: 23, Min: 59, Sec: 1}},
		{impl.Rtc{Hour: 23, Sec: 59}, impl.Rtc{Hour: 23, Min: 1}},
		{impl.Rtc{Hour: 23, Min: 59, Sec: 59}, impl.Rtc{}},
	} {
		wantTickRtc(t, c.r, c.want, false)
	}
}

func TestTickRtcOfValidClocks(t *testing.T) {
	for _, r := range validClocks() {
		wantTickedRtc(t, r)
	}
}

// The alarm at 0:00 occurs at the tick that ends the day.
func TestTickRtcAtTheEndOfTheDay(t *testing.T) {
	last, first := clockAt(daySeconds-1), clockAt(0)
	wantTickRtc(t, withAlarm(last, true, 0), withAlarm(first, true, 0), true)
	wantTickRtc(t, withAlarm(last, false, 0), withAlarm(first, false, 0), false)
	wantTickRtc(t, withAlarm(first, true, 0), withAlarm(clockAt(1), true, 0), false)
	wantTickRtc(t, withAlarm(last, true, dayMinutes-1), withAlarm(first, true, dayMinutes-1), false)
	wantTickRtc(t, withAlarm(last, true, 1), withAlarm(first, true, 1), false)
	begin := daySeconds - 60
	wantTickRtc(t, withAlarm(clockAt(begin-1), true, dayMinutes-1), withAlarm(clockAt(begin), true, dayMinutes-1), true)
	wantTickRtc(t, withAlarm(clockAt(begin), true, dayMinutes-1), withAlarm(clockAt(begin+1), true, dayMinutes-1), false)
}

// An alarm needs its hour, its minute and the first second, all of them.
func TestTickRtcAlarmNeedsItsMinute(t *testing.T) {
	alarm := 60*3 + 5
	second := 60 * alarm
	for _, far := range []int{-3600, -60, -2, -1, 0, 1, 2, 58, 59, 60, 3600} {
		r := withAlarm(clockAt(second-1+far), true, alarm)
		wantTickRtc(t, r, withAlarm(clockAt(second+far), true, alarm), far == 0)
	}
}

// The alarm occurs when its minute begins with the tick, and not when a clock is there already.
func TestTickRtcFromTheAlarm(t *testing.T) {
	for minute := range dayMinutes {
		r := withAlarm(clockAt(60*minute), true, minute)
		for range 60 {
			var alarm bool
			r, alarm = wantTickedRtc(t, r)
			if alarm {
				t.Fatal("the model reports an alarm in its own minute:", r)
			}
		}
	}
}

func TestTickRtcOfEveryAlarm(t *testing.T) {
	for alarm := range dayMinutes {
		for minute := range dayMinutes {
			second := 60 * minute
			before := clockAt((second + daySeconds - 1) % daySeconds)
			wantTickRtc(t, withAlarm(before, true, alarm), withAlarm(clockAt(second), true, alarm), minute == alarm)
			wantTickRtc(t, withAlarm(before, false, alarm), withAlarm(clockAt(second), false, alarm), false)
			wantTickRtc(t, withAlarm(clockAt(second), true, alarm), withAlarm(clockAt(second+1), true, alarm), false)
		}
	}
}

// An alarm that is set in its own minute occurs a day later.
func TestTickRtcAfterSetAlarm(t *testing.T) {
	r := mustSetAlarm(t, impl.Rtc{Hour: 23, Min: 59, Sec: 59}, 0, 0)
	wantTickRtc(t, r, impl.Rtc{Alarm: true}, true)
	r = mustSetAlarm(t, impl.Rtc{Sec: 30}, 0, 0)
	for second := 31; second < daySeconds; second++ {
		wantTickRtc(t, r, withAlarm(clockAt(second), true, 0), false)
		r = withAlarm(clockAt(second), true, 0)
	}
	wantTickRtc(t, r, impl.Rtc{Alarm: true}, true)
}

func TestTickRtcOfInvalidClocks(t *testing.T) {
	for _, r := range invalidClocks() {
		wantNoTickRtc(t, r, impl.ErrBad)
	}
}
