package tests

import (
	"testing"

	"loop.example/wicket/impl"
)

// moment is what is felt in a tick, and what is to be said in it.
type moment struct {
	felt impl.Felt
	want impl.Said
}

func tell(t *testing.T, times impl.Times, g impl.Gate, story []moment) {
	t.Helper()
	for i, m := range story {
		got := impl.Tick(times, g, m.felt)
		if m.want.Ok = true; got != m.want {
			t.Fatalf("tick %d, %+v:\n got %+v\nwant %+v", i, m.felt, got, m.want)
		}
		g = got.Gate
	}
}

func TestTrainComesAndGoes(t *testing.T) {
	times := impl.Times{Warn: 2, Close: 4, Least: 1, Most: 6}
	tell(t, times, impl.Gate{}, []moment{
		{impl.Felt{}, impl.Said{Gate: impl.Gate{Since: 1}}},
		{impl.Felt{Asked: true}, impl.Said{Gate: impl.Gate{State: impl.GWarning}, Red: true}},
		{impl.Felt{Asked: true}, impl.Said{Gate: impl.Gate{State: impl.GWarning, Since: 1, Shut: 1}, Red: true}},
		{impl.Felt{Asked: true}, impl.Said{Gate: impl.Gate{State: impl.GClosing, Shut: 2}, Red: true, Down: true}},
		{impl.Felt{Asked: true, Bars: impl.BMoves}, impl.Said{Gate: impl.Gate{State: impl.GClosing, Since: 1, Shut: 3}, Red: true, Down: true}},
		{impl.Felt{Near: true, Bars: impl.BDown}, impl.Said{Gate: impl.Gate{State: impl.GDown, Shut: 4}, May: true, Red: true, Down: true}},
		{impl.Felt{On: true, Bars: impl.BDown}, impl.Said{Gate: impl.Gate{State: impl.GDown, Since: 1, Shut: 5}, May: true, Red: true, Down: true}},
		{impl.Felt{On: true, Bars: impl.BDown}, impl.Said{Gate: impl.Gate{State: impl.GDown, Since: 2, Shut: 6}, May: true, Red: true, Down: true}},
		{impl.Felt{On: true, Bars: impl.BDown}, impl.Said{Gate: impl.Gate{State: impl.GDown, Since: 3, Shut: 7}, May: true, Red: true, Down: true}},
		{impl.Felt{Bars: impl.BDown}, impl.Said{Gate: impl.Gate{State: impl.GOpening, Shut: 8}, Red: true, Long: true}},
		{impl.Felt{Bars: impl.BMoves}, impl.Said{Gate: impl.Gate{State: impl.GOpening, Since: 1, Shut: 9}, Red: true, Long: true}},
		{impl.Felt{}, impl.Said{}},
		{impl.Felt{}, impl.Said{Gate: impl.Gate{Since: 1}}},
	})
}

// Without ticks to warn in there is still the one in which the gate becomes GWarning.
func TestWarningOfNoTicks(t *testing.T) {
	times := impl.Times{Warn: 0, Close: 4, Least: 1, Most: 50}
	tell(t, times, impl.Gate{Since: 8}, []moment{
		{impl.Felt{Near: true}, impl.Said{Gate: impl.Gate{State: impl.GWarning}, Red: true}},
		{impl.Felt{Near: true}, impl.Said{Gate: impl.Gate{State: impl.GClosing, Shut: 1}, Red: true, Down: true}},
		{impl.Felt{Near: true, Bars: impl.BDown}, impl.Said{Gate: impl.Gate{State: impl.GDown, Shut: 2}, May: true, Red: true, Down: true}},
	})
	if !impl.GateOk(times, impl.Gate{State: impl.GWarning}) {
		t.Error("a warning that has just begun is refused")
	}
	late := impl.Gate{State: impl.GWarning, Since: 1, Shut: 1}
	if impl.GateOk(times, late) || impl.Tick(times, late, impl.Felt{}) != (impl.Said{}) {
		t.Error("a warning for longer than none is accepted")
	}
}

// Nobody wants the gate and the least time is over: it must close again all the same, and not open; the fault stays until it is mended.
func TestBarsComeUpByThemselves(t *testing.T) {
	times := impl.Times{Warn: 2, Close: 2, Least: 1, Most: 50}
	for _, bars := range []int{impl.BUp, impl.BMoves} {
		tell(t, times, impl.Gate{State: impl.GDown, Since: 9, Shut: 9}, []moment{
			{impl.Felt{Bars: bars, Mend: true}, impl.Said{Gate: impl.Gate{State: impl.GClosing, Shut: 10, Fault: true}, Red: true, Down: true}},
			{impl.Felt{Bars: bars}, impl.Said{Gate: impl.Gate{State: impl.GClosing, Since: 1, Shut: 11, Fault: true}, Red: true, Down: true}},
			{impl.Felt{Bars: bars, Mend: true}, impl.Said{Gate: impl.Gate{State: impl.GClosing, Since: 2, Shut: 12}, Red: true, Down: true}},
			{impl.Felt{Bars: bars}, impl.Said{Gate: impl.Gate{State: impl.GClosing, Since: 3, Shut: 13, Fault: true}, Red: true, Down: true}},
			{impl.Felt{On: true, Bars: impl.BDown}, impl.Said{Gate: impl.Gate{State: impl.GDown, Shut: 14, Fault: true}, Red: true, Down: true}},
			{impl.Felt{On: true, Bars: impl.BDown}, impl.Said{Gate: impl.Gate{State: impl.GDown, Since: 1, Shut: 15, Fault: true}, Red: true, Down: true}},
			{impl.Felt{On: true, Bars: impl.BDown, Mend: true}, impl.Said{Gate: impl.Gate{State: impl.GDown, Since: 2, Shut: 16}, May: true, Red: true, Down: true}},
		})
	}
}

// Bars that are not up on an open road are a fault too; the gate is not shut by it.
func TestBarsComeDownByThemselves(t *testing.T) {
	times := plainTimes()
	for _, bars := range []int{impl.BMoves, impl.BDown} {
		tell(t, times, impl.Gate{}, []moment{
			{impl.Felt{Bars: bars}, impl.Said{Gate: impl.Gate{Since: 1, Fault: true}}},
			{impl.Felt{}, impl.Said{Gate: impl.Gate{Since: 2, Fault: true}}},
			{impl.Felt{Mend: true}, impl.Said{Gate: impl.Gate{Since: 3}}},
			{impl.Felt{Asked: true, Bars: bars}, impl.Said{Gate: impl.Gate{State: impl.GWarning, Fault: true}, Red: true}},
		})
	}
}

// The road is warned anew, for as long as ever, and has been shut all the while; bars that have come up already do not make it open.
func TestWantedWhileItOpens(t *testing.T) {
	times := impl.Times{Warn: 2, Close: 4, Least: 1, Most: 50}
	for _, f := range wantedBy() {
		for _, f.Bars = range allBars() {
			tell(t, times, impl.Gate{State: impl.GOpening, Since: 5, Shut: 9}, []moment{
				{f, impl.Said{Gate: impl.Gate{State: impl.GWarning, Shut: 10}, Red: true}},
				{impl.Felt{Bars: f.Bars}, impl.Said{Gate: impl.Gate{State: impl.GWarning, Since: 1, Shut: 11}, Red: true}},
				{impl.Felt{Bars: f.Bars}, impl.Said{Gate: impl.Gate{State: impl.GClosing, Shut: 12}, Red: true, Down: true}},
			})
		}
	}
}
