package tests

import (
	"math"
	"reflect"
	"slices"
	"testing"

	"loop.example/wicket/impl"
)

// shortTimes let a gate go through all its states in as few ticks as can be.
func shortTimes() impl.Times { return impl.Times{Warn: 0, Close: 1, Least: 0, Most: 1} }

// felts spells a list of ticks: a dot is a tick in which nothing is felt and the bars are up.
func felts(spelt string) []impl.Felt {
	letters := map[rune]impl.Felt{
		'.': {},
		'a': {Asked: true},
		'n': {Near: true},
		'o': {On: true},
		'm': {Bars: impl.BMoves},
		'w': {Asked: true, Bars: impl.BMoves},
		'd': {Bars: impl.BDown},
		'A': {Asked: true, Bars: impl.BDown},
		'N': {Near: true, Bars: impl.BDown},
		'O': {On: true, Bars: impl.BDown},
		'!': {Mend: true},
		'?': {Bars: 3},
	}
	var out []impl.Felt
	for _, r := range spelt {
		f, ok := letters[r]
		if !ok {
			panic("no such letter: " + string(r))
		}
		out = append(out, f)
	}
	return out
}

// wrongTimes passes each limit of the times, by one and by far.
func wrongTimes() []impl.Times {
	out := []impl.Times{{}}
	for _, l := range timesLimits() {
		for _, n := range []int{math.MinInt, l.least - 1, l.most + 1, math.MaxInt} {
			times := plainTimes()
			l.set(&times, n)
			out = append(out, times)
		}
	}
	return out
}

// wrongLists has one Bars that is wrong, in each place of a list.
func wrongLists() [][]impl.Felt {
	var out [][]impl.Felt
	for _, bars := range []int{math.MinInt, -1, 3, math.MaxInt} {
		right := felts("a..AOdd..")
		for i := range right {
			wrong := slices.Clone(right)
			wrong[i].Bars = bars
			out = append(out, wrong)
		}
	}
	return out
}

func TestRunTellsATrain(t *testing.T) {
	times := impl.Times{Warn: 2, Close: 4, Least: 1, Most: 5}
	want := []impl.Said{
		{Ok: true, Gate: impl.Gate{Since: 1}},
		{Ok: true, Gate: impl.Gate{State: impl.GWarning}, Red: true},
		{Ok: true, Gate: impl.Gate{State: impl.GWarning, Since: 1, Shut: 1}, Red: true},
		{Ok: true, Gate: impl.Gate{State: impl.GClosing, Shut: 2}, Red: true, Down: true},
		{Ok: true, Gate: impl.Gate{State: impl.GClosing, Since: 1, Shut: 3}, Red: true, Down: true},
		{Ok: true, Gate: impl.Gate{State: impl.GDown, Shut: 4}, May: true, Red: true, Down: true},
		{Ok: true, Gate: impl.Gate{State: impl.GDown, Since: 1, Shut: 5}, May: true, Red: true, Down: true},
		{Ok: true, Gate: impl.Gate{State: impl.GOpening, Shut: 6}, Red: true, Long: true},
		{Ok: true, Gate: impl.Gate{State: impl.GOpening, Since: 1, Shut: 7}, Red: true, Long: true},
		{Ok: true},
		{Ok: true, Gate: impl.Gate{Since: 1}},
		{Ok: true, Gate: impl.Gate{Since: 2, Fault: true}},
		{Ok: true, Gate: impl.Gate{Since: 3, Fault: true}},
		{Ok: true, Gate: impl.Gate{Since: 4}},
	}
	if got := impl.Run(times, felts(".aawwNOdm..m.!")); !reflect.DeepEqual(got, want) {
		t.Errorf("\n got %+v\nwant %+v", got, want)
	}
}

// ranByHand is one Tick after the other.
func ranByHand(times impl.Times, ticks []impl.Felt) []impl.Said {
	var out []impl.Said
	var g impl.Gate
	for _, f := range ticks {
		s := impl.Tick(times, g, f)
		out = append(out, s)
		g = s.Gate
	}
	return out
}

func TestRunIsTickAfterTick(t *testing.T) {
	var all []impl.Felt
	for range 20 {
		all = append(all, allFelt()...)
	}
	for _, times := range []impl.Times{plainTimes(), shortTimes(), {Warn: 100, Close: 100, Least: 1000, Most: 100000}} {
		for n := range len(all) {
			got := impl.Run(times, all[:n])
			if !slices.Equal(got, ranByHand(times, all[:n])) {
				t.Fatalf("%+v, %d ticks: %+v", times, n, got)
			}
		}
	}
}

func TestRunOfNoTicks(t *testing.T) {
	for _, times := range append(wrongTimes(), plainTimes()) {
		if got := impl.Run(times, nil); len(got) != 0 {
			t.Errorf("%+v, nil: %+v", times, got)
		}
		if got := impl.Run(times, []impl.Felt{}); len(got) != 0 {
			t.Errorf("%+v, the empty list: %+v", times, got)
		}
	}
}

func TestRunMostTicks(t *testing.T) {
	if impl.MaxTicks != 2000 {
		t.Errorf("MaxTicks is %d", impl.MaxTicks)
	}
	for _, f := range []impl.Felt{{}, {Asked: true}} {
		most := slices.Repeat([]impl.Felt{f}, 2000)
		if got := impl.Run(plainTimes(), most); len(got) != 2000 || !slices.Equal(got, ranByHand(plainTimes(), most)) {
			t.Errorf("2000 ticks of %+v: %d are told", f, len(got))
		}
		for _, more := range []int{1, 2, 2000} {
			long := append(slices.Clone(most), slices.Repeat([]impl.Felt{f}, more)...)
			if got := impl.Run(plainTimes(), long); len(got) != 0 {
				t.Errorf("%d ticks of %+v: %d are told", len(long), f, len(got))
			}
		}
	}
}

func TestRunLimitsOfTimes(t *testing.T) {
	ticks := felts("a..AOdd..")
	checkLimits(t, plainTimes(), timesLimits(), func(times impl.Times) bool {
		return len(impl.Run(times, ticks)) == len(ticks)
	})
	for _, times := range wrongTimes() {
		if got := impl.Run(times, ticks); len(got) != 0 {
			t.Errorf("%+v: %+v", times, got)
		}
	}
}

func TestRunWrongBars(t *testing.T) {
	for _, ticks := range wrongLists() {
		if got := impl.Run(plainTimes(), ticks); len(got) != 0 {
			t.Errorf("%+v: %+v", ticks, got)
		}
	}
	most := make([]impl.Felt, 2000)
	most[1999].Bars = 3
	if got := impl.Run(plainTimes(), most); len(got) != 0 {
		t.Errorf("wrong in the last of 2000 ticks: %d are told", len(got))
	}
}

// roomy is the same list with room behind it, so that a write past its end is to be seen.
func roomy(ticks []impl.Felt) (list, all []impl.Felt) {
	all = append(slices.Clone(ticks), felts("?!?!")...)
	return all[:len(ticks)], all
}

func TestRunAndWaitsLeaveWhatIsHandedIn(t *testing.T) {
	for _, times := range append(wrongTimes(), plainTimes(), shortTimes()) {
		for _, ticks := range append(wrongLists(), felts(""), felts("a"), felts("o.OOdd..a.dd.")) {
			list, all := roomy(ticks)
			before := slices.Clone(all)
			impl.Run(times, list)
			impl.Waits(times, list)
			if !slices.Equal(all, before) {
				t.Fatalf("%+v: %+v has become %+v", times, before, all)
			}
		}
	}
}

func TestRunAnswersNewMemory(t *testing.T) {
	ticks := felts("o.OOdd..a.dd.")
	first := impl.Run(shortTimes(), ticks)
	want := slices.Clone(first)
	for i := range first {
		first[i] = impl.Said{Gate: impl.Gate{State: 9, Since: -9}}
	}
	if !slices.Equal(ticks, felts("o.OOdd..a.dd.")) {
		t.Errorf("writing over the answer has changed the list: %+v", ticks)
	}
	second := impl.Run(shortTimes(), ticks)
	if !slices.Equal(second, want) {
		t.Errorf("the second answer differs:\n got %+v\nwant %+v", second, want)
	}
	ticks[0] = impl.Felt{Bars: 7}
	if !slices.Equal(second, want) {
		t.Errorf("writing over the list has changed the answer: %+v", second)
	}
}
