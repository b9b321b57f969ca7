package tests

import (
	"math"
	"testing"

	"loop.example/wicket/impl"
)

// wantedBy is every way in which a gate is wanted, one flag at a time and all at once.
func wantedBy() []impl.Felt {
	return []impl.Felt{{Asked: true}, {Near: true}, {On: true}, {Asked: true, Near: true, On: true}}
}

func isWanted(f impl.Felt) bool { return f.Asked || f.Near || f.On }

// allFelt is everything that can be felt: not wanted or wanted in each way, the bars everywhere, with and without Mend.
func allFelt() []impl.Felt {
	var out []impl.Felt
	for _, f := range append(wantedBy(), impl.Felt{}) {
		for _, f.Bars = range allBars() {
			for _, f.Mend = range []bool{false, true} {
				out = append(out, f)
			}
		}
	}
	return out
}

// checkState ticks a gate with everything that can be felt, with and without an earlier fault; want tells State, Since, Shut and whether a new fault is found. Flags are worked out from the state's number here.
func checkState(t *testing.T, times impl.Times, g impl.Gate, want func(impl.Felt) (state, since, shut int, fault bool)) {
	t.Helper()
	for _, f := range allFelt() {
		for _, g.Fault = range []bool{false, true} {
			var w impl.Said
			var found bool
			w.Ok = true
			w.Gate.State, w.Gate.Since, w.Gate.Shut, found = want(f)
			w.Gate.Fault = found || g.Fault && !f.Mend
			w.May = w.Gate.State == 3 && f.Bars == 2 && !w.Gate.Fault
			w.Red = w.Gate.State != 0
			w.Down = w.Gate.State == 2 || w.Gate.State == 3
			w.Long = w.Gate.Shut > times.Most && !f.On
			if got := impl.Tick(times, g, f); got != w {
				t.Errorf("%+v %+v %+v:\n got %+v\nwant %+v", times, g, f, got, w)
			}
		}
	}
}

func TestTickUp(t *testing.T) {
	for _, c := range []struct{ since, next int }{
		{0, 1}, {19, 20}, {mostCounted - 1, mostCounted}, {mostCounted, mostCounted},
	} {
		checkState(t, plainTimes(), impl.Gate{State: impl.GUp, Since: c.since}, func(f impl.Felt) (int, int, int, bool) {
			if isWanted(f) {
				return impl.GWarning, 0, 0, f.Bars != impl.BUp
			}
			return impl.GUp, c.next, 0, f.Bars != impl.BUp
		})
	}
}

func TestTickWarning(t *testing.T) {
	for _, c := range []struct{ warn, since, state, next int }{
		{3, 0, impl.GWarning, 1},
		{3, 1, impl.GWarning, 2},
		{3, 2, impl.GClosing, 0},
		{3, 3, impl.GClosing, 0},
		{0, 0, impl.GClosing, 0},
		{1, 0, impl.GClosing, 0},
		{1, 1, impl.GClosing, 0},
		{100, 98, impl.GWarning, 99},
		{100, 99, impl.GClosing, 0},
		{100, 100, impl.GClosing, 0},
	} {
		times := plainTimes()
		times.Warn = c.warn
		checkState(t, times, impl.Gate{State: impl.GWarning, Since: c.since, Shut: 6}, func(impl.Felt) (int, int, int, bool) {
			return c.state, c.next, 7, false
		})
	}
}

func TestTickClosing(t *testing.T) {
	for _, c := range []struct {
		close, since, next int
		late               bool
	}{
		{5, 0, 1, false},
		{5, 3, 4, false},
		{5, 4, 5, false},
		{5, 5, 6, true},
		{5, 6, 7, true},
		{1, 0, 1, false},
		{1, 1, 2, true},
		{100, 99, 100, false},
		{100, 100, 101, true},
		{5, mostCounted - 1, mostCounted, true},
		{5, mostCounted, mostCounted, true},
	} {
		times := plainTimes()
		times.Close = c.close
		checkState(t, times, impl.Gate{State: impl.GClosing, Since: c.since, Shut: 6}, func(f impl.Felt) (int, int, int, bool) {
			if f.Bars == impl.BDown {
				return impl.GDown, 0, 7, false
			}
			return impl.GClosing, c.next, 7, c.late
		})
	}
}

func TestTickDown(t *testing.T) {
	for _, c := range []struct {
		least, since, next int
		behind             bool
	}{
		{4, 0, 1, false},
		{4, 2, 3, false},
		{4, 3, 4, true},
		{4, 4, 5, true},
		{0, 0, 1, true},
		{1, 0, 1, true},
		{1000, 998, 999, false},
		{1000, 999, 1000, true},
		{1000, 1000, 1001, true},
		{4, mostCounted - 1, mostCounted, true},
		{4, mostCounted, mostCounted, true},
	} {
		times := plainTimes()
		times.Least = c.least
		checkState(t, times, impl.Gate{State: impl.GDown, Since: c.since, Shut: 6}, func(f impl.Felt) (int, int, int, bool) {
			switch {
			case f.Bars != impl.BDown:
				return impl.GClosing, 0, 7, true
			case !isWanted(f) && c.behind:
				return impl.GOpening, 0, 7, false
			}
			return impl.GDown, c.next, 7, false
		})
	}
}

func TestTickOpening(t *testing.T) {
	for _, c := range []struct{ since, next int }{
		{0, 1}, {30, 31}, {mostCounted - 1, mostCounted}, {mostCounted, mostCounted},
	} {
		checkState(t, plainTimes(), impl.Gate{State: impl.GOpening, Since: c.since, Shut: 6}, func(f impl.Felt) (int, int, int, bool) {
			switch {
			case isWanted(f):
				return impl.GWarning, 0, 7, false
			case f.Bars == impl.BUp:
				return impl.GUp, 0, 0, false
			}
			return impl.GOpening, c.next, 7, false
		})
	}
}

// The bars are down for these, so that of the gates that are not up each goes on being shut.
func TestTickShutAndLong(t *testing.T) {
	for _, c := range []struct {
		most, shut, next int
		long             bool
	}{
		{20, 0, 1, false},
		{20, 18, 19, false},
		{20, 19, 20, false},
		{20, 20, 21, true},
		{20, 21, 22, true},
		{1, 0, 1, false},
		{1, 1, 2, true},
		{100000, 99999, 100000, false},
		{100000, 100000, 100001, true},
		{20, mostCounted - 1, mostCounted, true},
		{20, mostCounted, mostCounted, true},
	} {
		times := plainTimes()
		times.Most = c.most
		for _, state := range allStates()[1:] {
			g := impl.Gate{State: state, Shut: c.shut}
			for _, f := range append(wantedBy(), impl.Felt{}) {
				f.Bars = impl.BDown
				got := impl.Tick(times, g, f)
				if got.Gate.Shut != c.next || got.Long != (c.long && !f.On) {
					t.Errorf("Most %d, %+v, %+v: %+v", c.most, g, f, got)
				}
			}
		}
	}
}

func TestTickUpIsNeverLong(t *testing.T) {
	times := plainTimes()
	times.Most = 1
	for _, g := range []impl.Gate{{Since: mostCounted}, {State: impl.GOpening, Since: 5, Shut: mostCounted}} {
		got := impl.Tick(times, g, impl.Felt{})
		if got.Gate.State != impl.GUp || got.Gate.Shut != 0 || got.Long || got.Red || got.Down || got.May {
			t.Errorf("%+v: %+v", g, got)
		}
	}
}

func TestTickMendComesFirst(t *testing.T) {
	times := plainTimes()
	for _, c := range []struct {
		g impl.Gate
		f impl.Felt
	}{
		{impl.Gate{Fault: true}, impl.Felt{Bars: impl.BMoves, Mend: true}},
		{impl.Gate{State: impl.GClosing, Since: 5, Fault: true}, impl.Felt{Bars: impl.BMoves, Mend: true}},
		{impl.Gate{State: impl.GDown, Fault: true}, impl.Felt{Bars: impl.BMoves, Mend: true}},
	} {
		if got := impl.Tick(times, c.g, c.f); !got.Ok || !got.Gate.Fault || got.May {
			t.Errorf("%+v: what is wrong in the tick itself is mended away: %+v", c.g, got)
		}
	}
	if got := impl.Tick(times, impl.Gate{State: impl.GDown, Fault: true}, impl.Felt{Near: true, Bars: impl.BDown, Mend: true}); !got.May || got.Gate.Fault {
		t.Errorf("Mend leaves the fault: %+v", got)
	}
}

func TestTickZeroWhenTimesAreWrong(t *testing.T) {
	for _, l := range timesLimits() {
		for _, n := range []int{math.MinInt, l.least - 1, l.most + 1, math.MaxInt} {
			times := plainTimes()
			l.set(&times, n)
			for _, state := range allStates() {
				checkZero(t, times, impl.Gate{State: state})
			}
		}
	}
	checkZero(t, impl.Times{}, impl.Gate{})
}

func TestTickZeroWhenGateIsWrong(t *testing.T) {
	wrong := []impl.Gate{
		{State: -1}, {State: 5}, {State: math.MinInt}, {State: math.MaxInt},
		{State: impl.GUp, Shut: 1}, {State: impl.GUp, Shut: mostCounted},
		{State: impl.GWarning, Since: 4, Shut: 4}, {State: impl.GWarning, Since: mostCounted},
	}
	for _, state := range allStates() {
		for _, n := range []int{math.MinInt, -1, mostCounted + 1, math.MaxInt} {
			wrong = append(wrong, impl.Gate{State: state, Since: n}, impl.Gate{State: state, Shut: n})
		}
	}
	for _, g := range wrong {
		checkZero(t, plainTimes(), g)
	}
}

func checkZero(t *testing.T, times impl.Times, g impl.Gate) {
	t.Helper()
	for _, f := range allFelt() {
		if got := impl.Tick(times, g, f); got != (impl.Said{}) {
			t.Errorf("%+v %+v %+v: %+v", times, g, f, got)
		}
	}
}

func TestTickZeroWhenFeltIsWrong(t *testing.T) {
	for _, bars := range []int{math.MinInt, -1, 3, math.MaxInt} {
		for _, state := range allStates() {
			for _, f := range append(wantedBy(), impl.Felt{}, impl.Felt{Mend: true}) {
				f.Bars = bars
				if got := impl.Tick(plainTimes(), impl.Gate{State: state}, f); got != (impl.Said{}) {
					t.Errorf("state %d, %+v: %+v", state, f, got)
				}
			}
		}
	}
}

// Whatever may be ticked leaves a gate that may be ticked again.
func TestTickLeavesGateRight(t *testing.T) {
	for _, times := range []impl.Times{
		plainTimes(), {Close: 1, Most: 1}, {Warn: 100, Close: 100, Least: 1000, Most: 100000},
	} {
		for _, state := range allStates() {
			for _, since := range []int{0, 1, 3, 100, mostCounted - 1, mostCounted} {
				for _, shut := range []int{0, 1, 20, mostCounted - 1, mostCounted} {
					g := impl.Gate{State: state, Since: since, Shut: shut}
					checkRightAgain(t, times, g)
				}
			}
		}
	}
}

func checkRightAgain(t *testing.T, times impl.Times, g impl.Gate) {
	t.Helper()
	right := impl.GateOk(times, g)
	for _, f := range allFelt() {
		got := impl.Tick(times, g, f)
		if got.Ok != right || right && !impl.GateOk(times, got.Gate) {
			t.Errorf("%+v %+v %+v: %+v", times, g, f, got)
		}
	}
}
