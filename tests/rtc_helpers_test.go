package tests

import (
	"fmt"
	"testing"

	"loop.example/g00563/impl"
)

const (
	daySeconds = 86400
	dayMinutes = 1440
)

// clockAt is a clock without an alarm at a second of the day.
func clockAt(second int) impl.Rtc {
	return impl.Rtc{Sec: second % 60, Min: second / 60 % 60, Hour: second / 3600}
}

// secondOf expects a valid clock.
func secondOf(r impl.Rtc) int {
	return 3600*r.Hour + 60*r.Min + r.Sec
}

// withAlarm sets the fields of the alarm to a minute of the day.
func withAlarm(r impl.Rtc, set bool, minute int) impl.Rtc {
	r.Alarm, r.AlarmHour, r.AlarmMin = set, minute/60, minute%60
	return r
}

// tickedRtc is what chapter 12 describes, for a valid clock: it counts the seconds of the day.
func tickedRtc(r impl.Rtc) (impl.Rtc, bool) {
	second := (secondOf(r) + 1) % daySeconds
	next := clockAt(second)
	next.Alarm, next.AlarmHour, next.AlarmMin = r.Alarm, r.AlarmHour, r.AlarmMin
	return next, r.Alarm && second == 3600*r.AlarmHour+60*r.AlarmMin
}

// patternRtc has six different fields, none of them 0 or at an end of its range.
func patternRtc() impl.Rtc {
	return impl.Rtc{Hour: 6, Min: 5, Sec: 4, Alarm: true, AlarmHour: 17, AlarmMin: 38}
}

type rtcField struct {
	name string
	most int
	of   func(r impl.Rtc, v int) impl.Rtc
}

func rtcFields() []rtcField {
	return []rtcField{
		{"Sec", 59, func(r impl.Rtc, v int) impl.Rtc { r.Sec = v; return r }},
		{"Min", 59, func(r impl.Rtc, v int) impl.Rtc { r.Min = v; return r }},
		{"Hour", 23, func(r impl.Rtc, v int) impl.Rtc { r.Hour = v; return r }},
		{"AlarmMin", 59, func(r impl.Rtc, v int) impl.Rtc { r.AlarmMin = v; return r }},
		{"AlarmHour", 23, func(r impl.Rtc, v int) impl.Rtc { r.AlarmHour = v; return r }},
	}
}

// bothAlarms are the clock with its alarm not set and set.
func bothAlarms(r impl.Rtc) []impl.Rtc {
	off, on := r, r
	off.Alarm, on.Alarm = false, true
	return []impl.Rtc{off, on}
}

func someClocks() []impl.Rtc {
	return []impl.Rtc{
		{},
		patternRtc(),
		{Hour: 23, Min: 59, Sec: 59, AlarmHour: 23, AlarmMin: 59},
	}
}

func validClocks() []impl.Rtc {
	var list []impl.Rtc
	for _, x := range someClocks() {
		list = append(list, bothAlarms(x)...)
		for _, f := range rtcFields() {
			for _, v := range []int{0, 1, 9, 10, f.most - 1, f.most} {
				list = append(list, bothAlarms(f.of(x, v))...)
			}
		}
	}
	return list
}

func wrongFields(most int) []int {
	return append(beyond(most), 60, 99, 100, 1<<32+most, 1<<33)
}

func invalidClocks() []impl.Rtc {
	list := []impl.Rtc{
		{Sec: 60, Min: 60, Hour: 24, AlarmMin: 60, AlarmHour: 24},
		{Sec: -1, Min: 1},
		{Sec: 60, Min: -1},
	}
	for _, x := range someClocks() {
		for _, f := range rtcFields() {
			for _, v := range wrongFields(f.most) {
				list = append(list, bothAlarms(f.of(x, v))...)
			}
		}
	}
	return list
}

// mustTickRtc calls Helper only where it fails, because whole days of ticks would wait for it.
func mustTickRtc(t *testing.T, r impl.Rtc) (impl.Rtc, bool) {
	next, alarm, code := impl.TickRtc(r)
	if code != impl.OK || !impl.RtcOK(next) {
		t.Helper()
		t.Fatal("TickRtc of", r, "is", next, alarm, "code", code)
	}
	return next, alarm
}

func wantTickRtc(t *testing.T, r, want impl.Rtc, alarm bool) {
	next, rang := mustTickRtc(t, r)
	if next != want || rang != alarm {
		t.Helper()
		t.Error("TickRtc of", r, "is", next, rang, "and not", want, alarm)
	}
}

// wantTickedRtc compares a tick with the model.
func wantTickedRtc(t *testing.T, r impl.Rtc) (impl.Rtc, bool) {
	t.Helper()
	want, alarm := tickedRtc(r)
	wantTickRtc(t, r, want, alarm)
	return want, alarm
}

func wantNoTickRtc(t *testing.T, r impl.Rtc, want int) {
	t.Helper()
	next, alarm, code := impl.TickRtc(r)
	if code != want || next != (impl.Rtc{}) || alarm {
		t.Error("TickRtc of", r, "is", next, alarm, "code", code, "and not code", want)
	}
}

// mustSetAlarm sets the alarm, which leaves the time as it was.
func mustSetAlarm(t *testing.T, r impl.Rtc, hour, minute int) impl.Rtc {
	t.Helper()
	next, code := impl.SetAlarm(r, hour, minute)
	want := impl.Rtc{Sec: r.Sec, Min: r.Min, Hour: r.Hour, Alarm: true, AlarmMin: minute, AlarmHour: hour}
	if code != impl.OK || next != want || !impl.RtcOK(next) {
		t.Fatal("SetAlarm of", r, "to", hour, minute, "is", next, "code", code, "and not", want)
	}
	return next
}

func wantNoAlarm(t *testing.T, r impl.Rtc, hour, minute, want int) {
	t.Helper()
	next, code := impl.SetAlarm(r, hour, minute)
	if code != want || next != (impl.Rtc{}) {
		t.Error("SetAlarm of", r, "to", hour, minute, "is", next, "code", code, "and not code", want)
	}
}

func wantRtcText(t *testing.T, r impl.Rtc, want string, wantCode int) {
	t.Helper()
	if text, code := impl.RtcText(r); text != want || code != wantCode {
		t.Errorf("RtcText of %v is %q code %d and not %q code %d", r, text, code, want, wantCode)
	}
}

func wantNumber(t *testing.T, what string, n, got, code, want, wantCode int) {
	t.Helper()
	if got != want || code != wantCode {
		t.Error(what, "of", n, "is", got, "code", code, "and not", want, "code", wantCode)
	}
}

func wantToBcd(t *testing.T, n, want, wantCode int) {
	t.Helper()
	got, code := impl.ToBcd(n)
	wantNumber(t, "ToBcd", n, got, code, want, wantCode)
}

func wantFromBcd(t *testing.T, n, want, wantCode int) {
	t.Helper()
	got, code := impl.FromBcd(n)
	wantNumber(t, "FromBcd", n, got, code, want, wantCode)
}

// bcdTexts has the two decimal digits of each number from 0 to 99; read as hexadecimal digits they are its binary-coded decimal.
func bcdTexts() []string {
	list := make([]string, 100)
	for n := range list {
		list[n] = fmt.Sprintf("%02d", n)
	}
	return list
}
