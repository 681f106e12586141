package tests

import (
	"fmt"
	"testing"

	"loop.example/g00563/impl"
)

func TestRtcExamples(t *testing.T) {
	wantRtcText(t, impl.Rtc{Hour: 6, Min: 5, Sec: 4}, "06:05:04", impl.OK)
	r := mustSetAlarm(t, impl.Rtc{Hour: 3, Min: 4, Sec: 59}, 3, 5)
	five := impl.Rtc{Hour: 3, Min: 5, Alarm: true, AlarmHour: 3, AlarmMin: 5}
	wantTickRtc(t, r, five, true)
	wantTickRtc(t, five, impl.Rtc{Hour: 3, Min: 5, Sec: 1, Alarm: true, AlarmHour: 3, AlarmMin: 5}, false)
	wantToBcd(t, 59, 89, impl.OK)
	wantFromBcd(t, 10, 0, impl.ErrForm)
	wantFromBcd(t, 256, 0, impl.ErrRange)
}

func TestRtcOK(t *testing.T) {
	for _, x := range validClocks() {
		if !impl.RtcOK(x) {
			t.Error("not valid:", x)
		}
	}
	for _, x := range invalidClocks() {
		if impl.RtcOK(x) {
			t.Error("valid:", x)
		}
	}
}

// Each field has a range of its own, whatever the others are, and whether or not the alarm is set.
func TestRtcOKOfEveryField(t *testing.T) {
	for _, f := range rtcFields() {
		for v := -130; v <= 300; v++ {
			for _, x := range someClocks() {
				for _, r := range bothAlarms(f.of(x, v)) {
					if want := v >= 0 && v <= f.most; impl.RtcOK(r) != want {
						t.Error("RtcOK is", !want, "with", f.name, v, "in", r)
					}
				}
			}
		}
	}
}

func TestSetAlarmToEveryMinute(t *testing.T) {
	for _, r := range validClocks() {
		for hour := range 24 {
			for minute := range 60 {
				mustSetAlarm(t, r, hour, minute)
			}
		}
	}
}

// An alarm that is set to what it was stays, and one that was off with the same fields is set.
func TestSetAlarmToTheSame(t *testing.T) {
	for _, r := range validClocks() {
		mustSetAlarm(t, r, r.AlarmHour, r.AlarmMin)
		mustSetAlarm(t, r, r.Hour, r.Min)
	}
}

func TestSetAlarmOneAfterTheOther(t *testing.T) {
	r := clockAt(5000)
	for _, minute := range []int{0, 1439, 60, 59, 60} {
		r = mustSetAlarm(t, r, minute/60, minute%60)
	}
	if r != (impl.Rtc{Hour: 1, Min: 23, Sec: 20, Alarm: true, AlarmHour: 1}) {
		t.Error("after five alarms the clock is", r)
	}
}

func TestSetAlarmHoursOutOfRange(t *testing.T) {
	for _, r := range validClocks() {
		for _, hour := range wrongFields(23) {
			for _, minute := range []int{-1, 0, 30, 59, 60} {
				wantNoAlarm(t, r, hour, minute, impl.ErrRange)
			}
		}
	}
}

func TestSetAlarmMinutesOutOfRange(t *testing.T) {
	for _, r := range validClocks() {
		for _, minute := range wrongFields(59) {
			for _, hour := range []int{-1, 0, 12, 23, 24} {
				wantNoAlarm(t, r, hour, minute, impl.ErrRange)
			}
		}
	}
}

// The minute has the larger range: what is a minute need not be an hour.
func TestSetAlarmHourAndMinuteExchanged(t *testing.T) {
	mustSetAlarm(t, patternRtc(), 23, 24)
	for hour := 24; hour < 60; hour++ {
		mustSetAlarm(t, patternRtc(), 5, hour)
		wantNoAlarm(t, patternRtc(), hour, 5, impl.ErrRange)
	}
}

func TestSetAlarmOfInvalidClocks(t *testing.T) {
	for _, r := range invalidClocks() {
		for _, hour := range []int{-1, 0, 23, 24, 1 << 40} {
			for _, minute := range []int{-1, 0, 59, 60, 1 << 40} {
				wantNoAlarm(t, r, hour, minute, impl.ErrBad)
			}
		}
	}
}

// The alarm that is replaced has to be valid as well.
func TestSetAlarmDoesNotMendTheAlarm(t *testing.T) {
	for _, r := range bothAlarms(impl.Rtc{AlarmHour: 24}) {
		wantNoAlarm(t, r, 3, 5, impl.ErrBad)
	}
	for _, r := range bothAlarms(impl.Rtc{AlarmMin: 60}) {
		wantNoAlarm(t, r, 3, 5, impl.ErrBad)
	}
}

func TestRtcTextByHand(t *testing.T) {
	for _, c := range []struct {
		hour, min, sec int
		want           string
	}{
		{0, 0, 0, "00:00:00"},
		{23, 59, 59, "23:59:59"},
		{1, 2, 3, "01:02:03"},
		{9, 9, 9, "09:09:09"},
		{10, 10, 10, "10:10:10"},
		{0, 0, 9, "00:00:09"},
		{0, 0, 10, "00:00:10"},
		{0, 9, 0, "00:09:00"},
		{20, 0, 0, "20:00:00"},
		{12, 34, 56, "12:34:56"},
	} {
		for _, r := range bothAlarms(impl.Rtc{Hour: c.hour, Min: c.min, Sec: c.sec, AlarmHour: 17, AlarmMin: 38}) {
			wantRtcText(t, r, c.want, impl.OK)
		}
	}
}

func TestRtcTextOfEverySecond(t *testing.T) {
	for second := range daySeconds {
		want := fmt.Sprintf("%02d:%02d:%02d", second/3600, second/60%60, second%60)
		wantRtcText(t, withAlarm(clockAt(second), second%2 == 0, second%dayMinutes), want, impl.OK)
	}
}

func TestRtcTextOfInvalidClocks(t *testing.T) {
	for _, r := range invalidClocks() {
		wantRtcText(t, r, "", impl.ErrBad)
	}
}
