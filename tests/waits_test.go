package tests

import (
	"slices"
	"testing"

	"loop.example/wicket/impl"
)

// With shortTimes a gate that is asked for in tick 0 is GClosing in 1, GDown in 2 if the bars are down, GOpening in 3, and up in 4.
func TestWaits(t *testing.T) {
	for _, c := range []struct {
		name, ticks string
		want        []impl.Wait
	}{
		{"no ticks", "", nil},
		{"nobody comes", "....", nil},
		{"a fault alone is no wait", ".md.!", nil},
		{"begun in the only tick", "a", []impl.Wait{{From: 0, To: -1}}},
		{"begun in the last tick", "..n", []impl.Wait{{From: 2, To: -1}}},
		{"does not end, the bars stay up", "a......", []impl.Wait{{From: 0, To: -1}}},
		{"does not end, somebody is near", "a.NNNNN", []impl.Wait{{From: 0, To: -1}}},
		{"does not end, one tick is wanting", ".a.dd", []impl.Wait{{From: 1, To: -1}}},
		{"does not end, the bars move", ".a.ddmm", []impl.Wait{{From: 1, To: -1}}},
		{"ends in the last tick", ".a.dd.", []impl.Wait{{From: 1, To: 5}}},
		{"ends ahead of the last tick", ".a.dd...", []impl.Wait{{From: 1, To: 5}}},
		{"opens slowly", "a.ddmm.", []impl.Wait{{From: 0, To: 6}}},
		{"two, one tick between", "a.dd.a.dd.", []impl.Wait{{From: 0, To: 4}, {From: 5, To: 9}}},
		{"three, the last does not end", "a.dd..n.NNdd....o", []impl.Wait{{From: 0, To: 4}, {From: 6, To: 12}, {From: 16, To: -1, Used: true}}},
		{"wanted while it opens", "a.ddw.dd.", []impl.Wait{{From: 0, To: 8}}},
		{"wanted while it opens, by a train", "a.ddo.dd.", []impl.Wait{{From: 0, To: 8, Used: true}}},
		{"wanted while it opens, and no end", "a.dda", []impl.Wait{{From: 0, To: -1}}},
		{"wanted twice while it opens", "a.ddA.ddn.dd.", []impl.Wait{{From: 0, To: 12}}},
		{"bars that come up by themselves", "a.Nm.dd.", []impl.Wait{{From: 0, To: 7}}},
		{"used in the first tick", "o.dd.", []impl.Wait{{From: 0, To: 4, Used: true}}},
		{"used in the first tick, no end", "..o", []impl.Wait{{From: 2, To: -1, Used: true}}},
		{"used in between", "a.OOdd.", []impl.Wait{{From: 0, To: 6, Used: true}}},
		{"used in one tick in between", "a.NONdd.", []impl.Wait{{From: 0, To: 7, Used: true}}},
		{"used while it closes", "aodd.", []impl.Wait{{From: 0, To: 4, Used: true}}},
		{"used in the last tick", "a.NO", []impl.Wait{{From: 0, To: -1, Used: true}}},
		{"used in the last tick that can be", "a.Od.", []impl.Wait{{From: 0, To: 4, Used: true}}},
		{"asked and near are not used", "an.ANdd.", []impl.Wait{{From: 0, To: 7}}},
		{"used in the first of two", "o.dd.a.dd.", []impl.Wait{{From: 0, To: 4, Used: true}, {From: 5, To: 9}}},
		{"used in the second of two", "a.dd.o.dd.", []impl.Wait{{From: 0, To: 4}, {From: 5, To: 9, Used: true}}},
		{"used in the first, the second does not end", "o.dd.a", []impl.Wait{{From: 0, To: 4, Used: true}, {From: 5, To: -1}}},
	} {
		if got := impl.Waits(shortTimes(), felts(c.ticks)); !slices.Equal(got, c.want) {
			t.Errorf("%s, %q:\n got %+v\nwant %+v", c.name, c.ticks, got, c.want)
		}
	}
}

func TestWaitsWithLongerTimes(t *testing.T) {
	times := impl.Times{Warn: 3, Close: 2, Least: 4, Most: 5}
	got := impl.Waits(times, felts(".aaa.mAOddddmm..a...dd!"))
	want := []impl.Wait{{From: 1, To: 14, Used: true}, {From: 16, To: -1}}
	if !slices.Equal(got, want) {
		t.Errorf("\n got %+v\nwant %+v", got, want)
	}
}

// waitsByHand asks of each tick alone whether a wait begins in it, and looks from there on.
func waitsByHand(times impl.Times, ticks []impl.Felt) []impl.Wait {
	said := ranByHand(times, ticks)
	var out []impl.Wait
	for i := range said {
		if !said[i].Red || i > 0 && said[i-1].Red {
			continue
		}
		w := impl.Wait{From: i, To: -1}
		for k := i; k < len(said) && w.To < 0; k++ {
			if !said[k].Red {
				w.To = k
			} else if ticks[k].On {
				w.Used = true
			}
		}
		out = append(out, w)
	}
	return out
}

// eachList calls see with every list of n ticks that these letters spell.
func eachList(letters string, n int, see func(spelt string)) {
	if n == 0 {
		see("")
		return
	}
	eachList(letters, n-1, func(spelt string) {
		for _, r := range letters {
			see(spelt + string(r))
		}
	})
}

func TestWaitsOfEveryShortList(t *testing.T) {
	for n := range 7 {
		eachList(".aomdO", n, func(spelt string) {
			ticks := felts(spelt)
			if got, want := impl.Waits(shortTimes(), ticks), waitsByHand(shortTimes(), ticks); !slices.Equal(got, want) {
				t.Fatalf("%q:\n got %+v\nwant %+v", spelt, got, want)
			}
		})
	}
}

func TestWaitsOfManyInARow(t *testing.T) {
	one := felts("a.dd.")
	ticks := slices.Repeat(one, 400)
	got := impl.Waits(shortTimes(), ticks)
	if len(got) != 400 {
		t.Fatalf("%d waits", len(got))
	}
	for i, w := range got {
		if w != (impl.Wait{From: 5 * i, To: 5*i + 4}) {
			t.Errorf("wait %d: %+v", i, w)
		}
	}
}

// A train on the road has the gate wanted, and no tick leaves a gate up that is wanted: that the lights are not red with a train on the road never comes, so no train is left out of a wait, and none is counted from outside one.
func TestTrainOnTheRoadHasRedLights(t *testing.T) {
	for _, before := range []string{"", "....", ".m.", "a.dd", "a.dd.", "a.dd..", "a.ddm", "a.N", "a.Nm"} {
		for _, train := range []string{"o", "O"} {
			ticks := felts(before + train)
			said := impl.Run(shortTimes(), ticks)
			waits := impl.Waits(shortTimes(), ticks)
			if !said[len(said)-1].Red {
				t.Errorf("%q: no red lights", before+train)
			}
			if last := waits[len(waits)-1]; !last.Used || last.To != -1 {
				t.Errorf("%q: %+v", before+train, waits)
			}
			for _, earlier := range waits[:len(waits)-1] {
				if earlier.Used {
					t.Errorf("%q: used by a train that came behind it: %+v", before+train, waits)
				}
			}
		}
	}
}

func TestWaitsNothingWhereRunIs(t *testing.T) {
	ticks := felts("a..AOdd..")
	checkLimits(t, plainTimes(), timesLimits(), func(times impl.Times) bool {
		return len(impl.Waits(times, ticks)) == 1
	})
	for _, times := range wrongTimes() {
		if got := impl.Waits(times, ticks); len(got) != 0 {
			t.Errorf("%+v: %+v", times, got)
		}
	}
	for _, wrong := range wrongLists() {
		if got := impl.Waits(plainTimes(), wrong); len(got) != 0 {
			t.Errorf("%+v: %+v", wrong, got)
		}
	}
	if got := impl.Waits(plainTimes(), felts("a....?")); len(got) != 0 {
		t.Errorf("a wait ahead of what is wrong: %+v", got)
	}
}

func TestWaitsMostTicks(t *testing.T) {
	ticks := slices.Repeat([]impl.Felt{{Asked: true}}, 2001)
	if got := impl.Waits(plainTimes(), ticks[:2000]); !slices.Equal(got, []impl.Wait{{From: 0, To: -1}}) {
		t.Errorf("2000 ticks: %+v", got)
	}
	if got := impl.Waits(plainTimes(), ticks); len(got) != 0 {
		t.Errorf("2001 ticks: %+v", got)
	}
	last := make([]impl.Felt, 2000)
	last[1999].On = true
	if got := impl.Waits(plainTimes(), last); !slices.Equal(got, []impl.Wait{{From: 1999, To: -1, Used: true}}) {
		t.Errorf("the last of 2000 ticks: %+v", got)
	}
}

func TestWaitsAnswersNewMemory(t *testing.T) {
	const spelt = "o.OOdd..a.dd.a"
	ticks := felts(spelt)
	first := impl.Waits(shortTimes(), ticks)
	want := slices.Clone(first)
	for i := range first {
		first[i] = impl.Wait{From: -5, To: -5}
	}
	if !slices.Equal(ticks, felts(spelt)) {
		t.Errorf("writing over the answer has changed the list: %+v", ticks)
	}
	second := impl.Waits(shortTimes(), ticks)
	if len(second) != 3 || !slices.Equal(second, want) {
		t.Errorf("the second answer differs:\n got %+v\nwant %+v", second, want)
	}
	ticks[0] = impl.Felt{Bars: 7}
	if !slices.Equal(second, want) {
		t.Errorf("writing over the list has changed the answer: %+v", second)
	}
}
