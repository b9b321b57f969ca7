package tests

import (
	"math"
	"slices"
	"testing"

	"loop.example/wicket/impl"
)

// acts spells a list of acts: a dot is a tick in which nothing happens, a capital one in which the bars are stuck as well.
func acts(spelt string) []impl.Act {
	letters := map[rune]impl.Act{
		'.': {},
		'a': {Asked: true},
		'n': {Near: true},
		'o': {On: true},
		's': {Stuck: true},
		'!': {Mend: true},
		'A': {Asked: true, Stuck: true},
		'N': {Near: true, Stuck: true},
		'O': {On: true, Stuck: true},
		'M': {Stuck: true, Mend: true},
		'm': {Asked: true, Mend: true},
	}
	var out []impl.Act
	for _, r := range spelt {
		a, ok := letters[r]
		if !ok {
			panic("no such letter: " + string(r))
		}
		out = append(out, a)
	}
	return out
}

// feltOf is what a gate feels of an act when its bars are at bar of steps.
func feltOf(a impl.Act, bar, steps int) impl.Felt {
	f := impl.Felt{Asked: a.Asked, Near: a.Near, On: a.On, Bars: impl.BMoves, Mend: a.Mend}
	if bar == 0 {
		f.Bars = impl.BUp
	} else if bar == steps {
		f.Bars = impl.BDown
	}
	return f
}

// drivenByHand ticks the gate and moves the bars one after the other.
func drivenByHand(times impl.Times, steps int, list []impl.Act) []impl.True {
	var out []impl.True
	var gate impl.Gate
	bar := 0
	for _, a := range list {
		said := impl.Tick(times, gate, feltOf(a, bar, steps))
		out = append(out, impl.True{Bar: bar, Said: said})
		gate = said.Gate
		if a.Stuck {
			continue
		}
		if said.Down && bar < steps {
			bar++
		} else if !said.Down && bar > 0 {
			bar--
		}
	}
	return out
}

func barsOf(driven []impl.True) []int {
	var out []int
	for _, d := range driven {
		out = append(out, d.Bar)
	}
	return out
}

func statesOf(driven []impl.True) []int {
	var out []int
	for _, d := range driven {
		out = append(out, d.Said.Gate.State)
	}
	return out
}

// Every field of every tick: the bars are told as they were felt, so they are at 0 in the tick that has them go down, and at steps in the one that has them go up.
func TestDriveTellsATrain(t *testing.T) {
	times := impl.Times{Warn: 2, Close: 4, Least: 1, Most: 6}
	want := []impl.True{
		{Bar: 0, Said: impl.Said{Gate: impl.Gate{Since: 1}}},
		{Bar: 0, Said: impl.Said{Gate: impl.Gate{State: impl.GWarning}, Red: true}},
		{Bar: 0, Said: impl.Said{Gate: impl.Gate{State: impl.GWarning, Since: 1, Shut: 1}, Red: true}},
		{Bar: 0, Said: impl.Said{Gate: impl.Gate{State: impl.GClosing, Shut: 2}, Red: true, Down: true}},
		{Bar: 1, Said: impl.Said{Gate: impl.Gate{State: impl.GClosing, Since: 1, Shut: 3}, Red: true, Down: true}},
		{Bar: 2, Said: impl.Said{Gate: impl.Gate{State: impl.GDown, Shut: 4}, May: true, Red: true, Down: true}},
		{Bar: 2, Said: impl.Said{Gate: impl.Gate{State: impl.GDown, Since: 1, Shut: 5}, May: true, Red: true, Down: true}},
		{Bar: 2, Said: impl.Said{Gate: impl.Gate{State: impl.GDown, Since: 2, Shut: 6}, May: true, Red: true, Down: true}},
		{Bar: 2, Said: impl.Said{Gate: impl.Gate{State: impl.GDown, Since: 3, Shut: 7}, May: true, Red: true, Down: true}},
		{Bar: 2, Said: impl.Said{Gate: impl.Gate{State: impl.GOpening, Shut: 8}, Red: true, Long: true}},
		{Bar: 1, Said: impl.Said{Gate: impl.Gate{State: impl.GOpening, Since: 1, Shut: 9}, Red: true, Long: true}},
		{Bar: 0, Said: impl.Said{}},
		{Bar: 0, Said: impl.Said{Gate: impl.Gate{Since: 1}}},
	}
	for i := range want {
		want[i].Said.Ok = true
	}
	if got := impl.Drive(times, 2, acts(".aaaanooo....")); !slices.Equal(got, want) {
		t.Errorf("\n got %+v\nwant %+v", got, want)
	}
}

// Where the bars are in each tick, and what state the gate is left in.
func TestDriveBars(t *testing.T) {
	const u, w, c, d, o = impl.GUp, impl.GWarning, impl.GClosing, impl.GDown, impl.GOpening
	times := impl.Times{Warn: 1, Close: 4, Least: 0, Most: 50}
	for _, k := range []struct {
		name   string
		steps  int
		acts   string
		bars   []int
		states []int
	}{
		{"one step: up, then down, never between", 1, "aaan....", []int{0, 0, 1, 1, 1, 0, 0, 0}, []int{w, c, d, d, o, u, u, u}},
		{"two steps", 2, "aaaan....", []int{0, 0, 1, 2, 2, 2, 1, 0, 0}, []int{w, c, c, d, d, o, o, u, u}},
		{"three steps", 3, "aaaaan.....", []int{0, 0, 1, 2, 3, 3, 3, 2, 1, 0, 0}, []int{w, c, c, c, d, d, o, o, o, u, u}},
		{"bars that are up and to be up stay", 3, "....", []int{0, 0, 0, 0}, []int{u, u, u, u}},
		{"bars that are down and to be down stay", 1, "aaooooo", []int{0, 0, 1, 1, 1, 1, 1}, []int{w, c, d, d, d, d, d}},
		{"stuck while they are up and to be up", 1, "ss.aA..", []int{0, 0, 0, 0, 0, 0, 1}, []int{u, u, u, w, c, c, d}},
		{"stuck while they are down and to be down", 1, "aaOON..", []int{0, 0, 1, 1, 1, 1, 0}, []int{w, c, d, d, d, o, u}},
		{"stuck in the tick that would have them begin", 2, "aAaaaa", []int{0, 0, 0, 1, 2, 2}, []int{w, c, c, c, d, d}},
		{"stuck between, one tick", 2, "aaAaaa", []int{0, 0, 1, 1, 2, 2}, []int{w, c, c, c, d, d}},
		{"stuck between, two ticks", 2, "aaAAaa", []int{0, 0, 1, 1, 1, 2}, []int{w, c, c, c, c, d}},
		{"stuck, free and stuck again", 2, "aAaAaa", []int{0, 0, 0, 1, 1, 2}, []int{w, c, c, c, c, d}},
		{"stuck while the road is warned", 1, "Aaa.", []int{0, 0, 1, 1}, []int{w, c, d, o}},
		{"stuck in the tick that opens", 1, "aaas...", []int{0, 0, 1, 1, 1, 0, 0}, []int{w, c, d, o, o, u, u}},
		{"stuck while they come up", 2, "aaaa.ss...", []int{0, 0, 1, 2, 2, 1, 1, 1, 0, 0}, []int{w, c, c, d, o, o, o, o, u, u}},
		{"wanted while it opens: they go up until the warning is over", 3, "aaaaa.aaaaa", []int{0, 0, 1, 2, 3, 3, 2, 1, 2, 3, 3}, []int{w, c, c, c, d, o, w, c, c, d, d}},
	} {
		got := impl.Drive(times, k.steps, acts(k.acts))
		if !slices.Equal(barsOf(got), k.bars) || !slices.Equal(statesOf(got), k.states) {
			t.Errorf("%s, %q:\n got %v %v\nwant %v %v", k.name, k.acts, barsOf(got), statesOf(got), k.bars, k.states)
		}
	}
}

// Stuck bars change nothing of what is said in the very tick: the gate isn't told that they are.
func TestDriveStuckIsNotFelt(t *testing.T) {
	times := impl.Times{Warn: 1, Close: 1, Least: 1, Most: 3}
	free := acts("aaaaoo..a.aaaa...")
	for i := range free {
		stuck := slices.Clone(free)
		stuck[i].Stuck = true
		for steps := 1; steps <= 4; steps++ {
			got, want := impl.Drive(times, steps, stuck), impl.Drive(times, steps, free)
			if !slices.Equal(got[:i+1], want[:i+1]) {
				t.Errorf("%d steps, stuck in tick %d:\n got %+v\nwant %+v", steps, i, got[:i+1], want[:i+1])
			}
		}
	}
}

// What is felt is BUp at 0, BDown at steps and BMoves between: with these a gate that is run says the same.
func TestDriveIsRunOverWhatIsFelt(t *testing.T) {
	for _, times := range []impl.Times{plainTimes(), shortTimes(), {Warn: 2, Close: 3, Least: 2, Most: 4}} {
		for _, spelt := range []string{"aaaaaaaaannnooo.........", "a......................", "aaaaAAAaaaaaamoo......a..", "o.......n.......a..s..s.!.."} {
			for _, steps := range []int{1, 2, 3, 6, 1000} {
				list := acts(spelt)
				driven := impl.Drive(times, steps, list)
				var ticks []impl.Felt
				for i, d := range driven {
					ticks = append(ticks, feltOf(list[i], d.Bar, steps))
				}
				for i, said := range impl.Run(times, ticks) {
					if driven[i].Said != said {
						t.Errorf("%+v, %d steps, %q, tick %d:\n got %+v\nwant %+v", times, steps, spelt, i, driven[i].Said, said)
					}
				}
			}
		}
	}
}

func TestDriveOfEveryShortList(t *testing.T) {
	times := impl.Times{Warn: 0, Close: 1, Least: 0, Most: 2}
	for steps := 1; steps <= 3; steps++ {
		for n := range 7 {
			eachList(".aAsm", n, func(spelt string) {
				list := acts(spelt)
				if got, want := impl.Drive(times, steps, list), drivenByHand(times, steps, list); !slices.Equal(got, want) {
					t.Fatalf("%d steps, %q:\n got %+v\nwant %+v", steps, spelt, got, want)
				}
			})
		}
	}
}

// Each flag of an act comes to the gate as itself: On alone keeps Long from being said, Mend alone puts right.
func TestDriveFeelsEachFlag(t *testing.T) {
	times := impl.Times{Warn: 0, Close: 1, Least: 0, Most: 1}
	for _, a := range []impl.Act{{Asked: true}, {Near: true}, {On: true}} {
		got := impl.Drive(times, 1, slices.Repeat([]impl.Act{a}, 4))
		if !slices.Equal(statesOf(got), []int{impl.GWarning, impl.GClosing, impl.GDown, impl.GDown}) {
			t.Errorf("%+v: %+v", a, got)
		}
		if last := got[3].Said; last.Long == a.On {
			t.Errorf("%+v: %+v", a, last)
		}
	}
	for _, a := range []impl.Act{{}, {Stuck: true}, {Mend: true}} {
		for i, d := range impl.Drive(times, 1, slices.Repeat([]impl.Act{a}, 4)) {
			if d.Said.Gate != (impl.Gate{Since: i + 1}) || d.Bar != 0 {
				t.Errorf("%+v, tick %d: %+v", a, i, d)
			}
		}
	}
	late := acts("aAAAaaaam")
	got := impl.Drive(times, 1, late)
	if n := len(late) - 1; !got[n-1].Said.Gate.Fault || got[n].Said.Gate.Fault || !got[n].Said.May {
		t.Errorf("%+v", got)
	}
}

func TestDriveOfNoActs(t *testing.T) {
	for _, times := range append(wrongTimes(), plainTimes()) {
		for _, steps := range []int{math.MinInt, 0, 1, 1000, 1001, math.MaxInt} {
			for _, list := range [][]impl.Act{nil, {}} {
				if got := impl.Drive(times, steps, list); len(got) != 0 {
					t.Errorf("%+v, %d steps: %+v", times, steps, got)
				}
			}
		}
	}
}

func TestDriveMostActs(t *testing.T) {
	for _, a := range []impl.Act{{}, {Asked: true}, {Near: true, Stuck: true}} {
		for _, steps := range []int{1, 5, 1000} {
			for _, n := range []int{1999, 2000} {
				list := slices.Repeat([]impl.Act{a}, n)
				if got := impl.Drive(plainTimes(), steps, list); len(got) != n || !slices.Equal(got, drivenByHand(plainTimes(), steps, list)) {
					t.Errorf("%d of %+v, %d steps: %d are told", n, a, steps, len(got))
				}
			}
			for _, n := range []int{2001, 2002, 4000} {
				if got := impl.Drive(plainTimes(), steps, slices.Repeat([]impl.Act{a}, n)); len(got) != 0 {
					t.Errorf("%d of %+v, %d steps: %d are told", n, a, steps, len(got))
				}
			}
		}
	}
}

func TestDriveLimitsOfSteps(t *testing.T) {
	list := acts("aaaaaaaa..")
	checkLimits(t, 1, []limit[int]{{"steps", func(v *int, n int) { *v = n }, 1, 1000}}, func(steps int) bool {
		return len(impl.Drive(plainTimes(), steps, list)) == len(list)
	})
	for _, steps := range []int{1, 2, 999, 1000} {
		if got := impl.Drive(plainTimes(), steps, list); !slices.Equal(got, drivenByHand(plainTimes(), steps, list)) {
			t.Errorf("%d steps: %+v", steps, got)
		}
	}
	for _, steps := range []int{math.MinInt, -1000, -1, 0, 1001, 1002, math.MaxInt} {
		if got := impl.Drive(plainTimes(), steps, list); len(got) != 0 {
			t.Errorf("%d steps: %+v", steps, got)
		}
	}
}

func TestDriveLimitsOfTimes(t *testing.T) {
	list := acts("aaaaaaaaoo......")
	checkLimits(t, plainTimes(), timesLimits(), func(times impl.Times) bool {
		return len(impl.Drive(times, 3, list)) == len(list)
	})
	for _, times := range wrongTimes() {
		for _, steps := range []int{0, 1, 1000, 1001} {
			if got := impl.Drive(times, steps, list); len(got) != 0 {
				t.Errorf("%+v, %d steps: %+v", times, steps, got)
			}
		}
	}
}

// The bars take a thousand ticks to come down, and are nearly up again in the last of the most ticks there may be.
func TestDriveAThousandSteps(t *testing.T) {
	times := impl.Times{Warn: 0, Close: 1, Least: 0, Most: 1}
	list := slices.Concat(slices.Repeat(acts("a"), 1001), make([]impl.Act, 999))
	got := impl.Drive(times, 1000, list)
	if len(got) != 2000 {
		t.Fatalf("%d are told", len(got))
	}
	for tick, d := range got {
		want := max(tick-1, 0)
		if tick > 1001 {
			want = 2002 - tick
		}
		if d.Bar != want {
			t.Fatalf("tick %d: %d, want %d", tick, d.Bar, want)
		}
	}
}
