package tests

import (
	"math"
	"testing"

	"loop.example/wicket/impl"
)

const mostCounted = 1000000000

func plainTimes() impl.Times { return impl.Times{Warn: 3, Close: 5, Least: 4, Most: 20} }

func allStates() []int {
	return []int{impl.GUp, impl.GWarning, impl.GClosing, impl.GDown, impl.GOpening}
}

func allBars() []int { return []int{impl.BUp, impl.BMoves, impl.BDown} }

func TestNumbersOfStatesAndBars(t *testing.T) {
	for number, state := range allStates() {
		if state != number {
			t.Errorf("state %d is %d", number, state)
		}
	}
	for number, bars := range allBars() {
		if bars != number {
			t.Errorf("bars %d are %d", number, bars)
		}
	}
}

// limit names a field of T and the least and most that it may be.
type limit[T any] struct {
	name        string
	set         func(*T, int)
	least, most int
}

func checkLimits[T any](t *testing.T, right T, limits []limit[T], ok func(T) bool) {
	t.Helper()
	for _, l := range limits {
		for _, c := range []struct {
			value int
			want  bool
		}{
			{math.MinInt, false}, {l.least - 1, false}, {l.least, true},
			{l.most, true}, {l.most + 1, false}, {math.MaxInt, false},
		} {
			v := right
			l.set(&v, c.value)
			if got := ok(v); got != c.want {
				t.Errorf("%s %d: %v, want %v", l.name, c.value, got, c.want)
			}
		}
	}
}

func timesLimits() []limit[impl.Times] {
	return []limit[impl.Times]{
		{"Warn", func(v *impl.Times, n int) { v.Warn = n }, 0, 100},
		{"Close", func(v *impl.Times, n int) { v.Close = n }, 1, 100},
		{"Least", func(v *impl.Times, n int) { v.Least = n }, 0, 1000},
		{"Most", func(v *impl.Times, n int) { v.Most = n }, 1, 100000},
	}
}

func TestTimesOkLimits(t *testing.T) {
	checkLimits(t, plainTimes(), timesLimits(), impl.TimesOk)
	for _, c := range []struct {
		times impl.Times
		want  bool
	}{
		{impl.Times{Close: 1, Most: 1}, true},
		{impl.Times{Warn: 100, Close: 100, Least: 1000, Most: 100000}, true},
		{impl.Times{}, false},
		{impl.Times{Most: 1}, false},
		{impl.Times{Close: 1}, false},
	} {
		if got := impl.TimesOk(c.times); got != c.want {
			t.Errorf("%v: %v", c.times, got)
		}
	}
}

func TestGateOkLimits(t *testing.T) {
	times := plainTimes()
	ok := func(g impl.Gate) bool { return impl.GateOk(times, g) }
	since := func(v *impl.Gate, n int) { v.Since = n }
	shut := func(v *impl.Gate, n int) { v.Shut = n }
	checkLimits(t, impl.Gate{}, []limit[impl.Gate]{
		{"State", func(v *impl.Gate, n int) { v.State = n }, impl.GUp, impl.GOpening},
	}, ok)
	for _, fault := range []bool{false, true} {
		for _, state := range allStates() {
			mostSince, mostShut := mostCounted, mostCounted
			if state == impl.GWarning {
				mostSince = times.Warn
			}
			if state == impl.GUp {
				mostShut = 0
			}
			checkLimits(t, impl.Gate{State: state, Fault: fault}, []limit[impl.Gate]{
				{"Since", since, 0, mostSince},
				{"Shut", shut, 0, mostShut},
			}, ok)
		}
	}
}

func TestGateOkWarningHangsOnWarn(t *testing.T) {
	for _, warn := range []int{0, 1, 50, 100} {
		times := plainTimes()
		times.Warn = warn
		for _, shut := range []int{0, 7, mostCounted} {
			if !impl.GateOk(times, impl.Gate{State: impl.GWarning, Since: warn, Shut: shut}) {
				t.Errorf("Warn %d: Since %d is refused", warn, warn)
			}
			if impl.GateOk(times, impl.Gate{State: impl.GWarning, Since: warn + 1, Shut: shut}) {
				t.Errorf("Warn %d: Since %d is accepted", warn, warn+1)
			}
		}
	}
}

func TestGateOkSinceMayPassShut(t *testing.T) {
	if !impl.GateOk(plainTimes(), impl.Gate{State: impl.GDown, Since: 9, Shut: 2}) {
		t.Error("the document does not hold Since against Shut")
	}
}

func TestGateOkWrongTimes(t *testing.T) {
	for _, l := range timesLimits() {
		for _, state := range allStates() {
			checkLimits(t, plainTimes(), []limit[impl.Times]{l}, func(times impl.Times) bool {
				return impl.GateOk(times, impl.Gate{State: state})
			})
		}
	}
	if impl.GateOk(impl.Times{}, impl.Gate{}) {
		t.Error("a gate without times is accepted")
	}
}

func TestFeltOkLimits(t *testing.T) {
	bars := []limit[impl.Felt]{{"Bars", func(v *impl.Felt, n int) { v.Bars = n }, impl.BUp, impl.BDown}}
	for flags := range 16 {
		checkLimits(t, impl.Felt{
			Asked: flags&1 != 0, Near: flags&2 != 0, On: flags&4 != 0, Mend: flags&8 != 0,
		}, bars, impl.FeltOk)
	}
}
