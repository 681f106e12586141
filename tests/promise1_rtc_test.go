package tests

import (
	"fmt"
	"testing"

	"loop.example/g00563/impl"
)

// rtcResult holds the results of any of the functions on clocks.
type rtcResult struct {
	rtc  impl.Rtc
	flag bool
	text string
	code int
}

type rtcCall struct {
	name string
	call func(r impl.Rtc) rtcResult
}

// rtcCalls include calls with every code.
func rtcCalls() []rtcCall {
	all := []rtcCall{
		{"RtcOK", func(r impl.Rtc) rtcResult { return rtcResult{flag: impl.RtcOK(r)} }},
		{"TickRtc", func(r impl.Rtc) rtcResult {
			next, alarm, code := impl.TickRtc(r)
			return rtcResult{rtc: next, flag: alarm, code: code}
		}},
		{"RtcText", func(r impl.Rtc) rtcResult {
			text, code := impl.RtcText(r)
			return rtcResult{text: text, code: code}
		}},
	}
	for _, hour := range []int{-1, 0, 7, 23, 24} {
		for _, minute := range []int{-1, 0, 8, 59, 60} {
			all = append(all, rtcCall{fmt.Sprint("SetAlarm to ", hour, " ", minute), func(r impl.Rtc) rtcResult {
				next, code := impl.SetAlarm(r, hour, minute)
				return rtcResult{rtc: next, code: code}
			}})
		}
	}
	return all
}

func allClocks() []impl.Rtc {
	return append(validClocks(), invalidClocks()...)
}

func TestPromise1RtcArgumentsStay(t *testing.T) {
	for _, x := range allClocks() {
		r := x
		for _, f := range rtcCalls() {
			if f.call(r); r != x {
				t.Fatal("argument changed by", f.name, "of", x)
			}
		}
	}
}

func TestPromise1RtcEqualCallsEqualResults(t *testing.T) {
	clocks := allClocks()
	for i, x := range clocks {
		for _, f := range rtcCalls() {
			first := f.call(x)
			for _, g := range rtcCalls() {
				g.call(clocks[(i+1)%len(clocks)])
			}
			if again := f.call(x); again != first {
				t.Error("the second call differs:", f.name, "of", x, "is", first, again)
			}
		}
	}
}

// Numbers do not depend on the numbers before, in either order.
func TestPromise1BcdEqualCallsEqualResults(t *testing.T) {
	type pair struct{ n, code int }
	to, from := map[int]pair{}, map[int]pair{}
	for n := -300; n <= 300; n++ {
		value, code := impl.ToBcd(n)
		to[n] = pair{value, code}
		value, code = impl.FromBcd(n)
		from[n] = pair{value, code}
	}
	for n := 300; n >= -300; n-- {
		wantToBcd(t, n, to[n].n, to[n].code)
		wantFromBcd(t, n, from[n].n, from[n].code)
	}
}

// Beside each code every other result is a zero value.
func TestPromise1RtcCodesWithZeroValues(t *testing.T) {
	for _, f := range rtcCalls() {
		for _, x := range invalidClocks() {
			got := f.call(x)
			if f.name != "RtcOK" && got.code != impl.ErrBad || got != (rtcResult{code: got.code}) {
				t.Error(f.name, "of", x, "is", got)
			}
		}
		for _, x := range validClocks() {
			got := f.call(x)
			if got.code != impl.OK && got != (rtcResult{code: impl.ErrRange}) {
				t.Error(f.name, "of", x, "is", got)
			}
		}
	}
}

func TestPromise1BcdCodesWithZeroValues(t *testing.T) {
	for n := -300; n <= 300; n++ {
		if coded, code := impl.ToBcd(n); code != impl.OK && (coded != 0 || code != impl.ErrRange) {
			t.Error("ToBcd of", n, "is", coded, "code", code)
		}
		if back, code := impl.FromBcd(n); code != impl.OK && (back != 0 || code != impl.ErrRange && code != impl.ErrForm) {
			t.Error("FromBcd of", n, "is", back, "code", code)
		}
	}
}
