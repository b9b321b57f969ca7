package tests

import (
	"math/rand/v2"
	"slices"
	"testing"

	"loop.example/wicket/impl"
)

// A world is what Drive is asked about.
type world struct {
	times impl.Times
	steps int
	acts  []impl.Act
}

// manyWorlds are the same at every run: over short times every list of six acts of four kinds, behind two that ask; and longer lists by drawn numbers in which trains come and go, bars are stuck for some ticks, and somebody puts it right sooner or later.
func manyWorlds() []world {
	var out []world
	for steps := 1; steps <= 2; steps++ {
		eachList(".oAm", 6, func(spelt string) {
			out = append(out, world{shortTimes(), steps, acts("aa" + spelt)})
		})
	}
	draw := rand.New(rand.NewPCG(3, 8))
	for range 1500 {
		times := impl.Times{Warn: draw.IntN(6), Close: 1 + draw.IntN(8), Least: draw.IntN(7), Most: 1 + draw.IntN(30)}
		out = append(out, world{times, 1 + draw.IntN(10), drawnActs(draw, 20+draw.IntN(200))})
	}
	for range 20 {
		times := impl.Times{Warn: draw.IntN(101), Close: 1 + draw.IntN(100), Least: draw.IntN(200), Most: 1 + draw.IntN(500)}
		out = append(out, world{times, 1 + draw.IntN(120), drawnActs(draw, 2000)})
	}
	return out
}

// drawnActs has each flag keep for some ticks what it is, so that gates come to be down and bars to be late.
func drawnActs(draw *rand.Rand, n int) []impl.Act {
	out := make([]impl.Act, n)
	var a impl.Act
	rare := 3 + draw.IntN(60)
	for i := range out {
		for _, flag := range []*bool{&a.Asked, &a.Near, &a.On} {
			if draw.IntN(12) == 0 {
				*flag = draw.IntN(4) == 0
			}
		}
		if draw.IntN(6) == 0 {
			a.Stuck = draw.IntN(5) == 0
		}
		a.Mend = draw.IntN(rare) == 0
		out[i] = a
	}
	return out
}

func wantsGate(a impl.Act) bool { return a.Asked || a.Near || a.On }

// P4. Enough of the worlds must let trains come, and enough have faults, for this to say something.
func TestTrainsComeOnlyOverBarsThatAreDown(t *testing.T) {
	may, faults := 0, 0
	for _, w := range manyWorlds() {
		for tick, d := range impl.Drive(w.times, w.steps, w.acts) {
			if d.Said.Gate.Fault {
				faults++
			}
			if !d.Said.May {
				continue
			}
			may++
			if d.Bar != w.steps || !d.Said.Red || !d.Said.Down || d.Said.Gate.Fault || d.Said.Gate.State != impl.GDown {
				t.Fatalf("%+v, %d steps, %+v, tick %d: %+v", w.times, w.steps, w.acts[:tick+1], tick, d)
			}
		}
	}
	if may < 1000 || faults < 1000 {
		t.Errorf("%d ticks let trains come, %d have a fault", may, faults)
	}
}

// P5.
func TestWantedGateNeitherOpensNorIsUp(t *testing.T) {
	opened := 0
	for _, w := range manyWorlds() {
		down := 0
		for tick, d := range impl.Drive(w.times, w.steps, w.acts) {
			state := d.Said.Gate.State
			if wantsGate(w.acts[tick]) && (state == impl.GOpening || state == impl.GUp) {
				t.Fatalf("%+v, %d steps, %+v, tick %d: wanted, and %+v", w.times, w.steps, w.acts[:tick+1], tick, d)
			}
			if state == impl.GOpening && d.Said.Gate.Since == 0 {
				opened++
				if down < max(w.times.Least, 1) {
					t.Fatalf("%+v, %d steps, %+v, tick %d: opens behind %d ticks", w.times, w.steps, w.acts[:tick+1], tick, down)
				}
			}
			if state == impl.GDown {
				down++
			} else {
				down = 0
			}
		}
	}
	if opened < 1000 {
		t.Errorf("only %d have opened", opened)
	}
}

// P5, to the tick: nobody wants the gate any more, and it is down for just the least time, or for one tick where that is none.
func TestOpensBehindTheLeastTime(t *testing.T) {
	for _, least := range []int{0, 1, 2, 9, 1000} {
		times := impl.Times{Warn: 0, Close: 3, Least: least, Most: 50}
		list := make([]impl.Act, least+20)
		list[0].Asked = true
		states := statesOf(impl.Drive(times, 3, list))
		down, opening := slices.Index(states, impl.GDown), slices.Index(states, impl.GOpening)
		if down != 4 || opening != 4+max(least, 1) {
			t.Errorf("Least %d: down in tick %d, opens in %d", least, down, opening)
		}
	}
}

func firstMay(driven []impl.True) int {
	return slices.IndexFunc(driven, func(d impl.True) bool { return d.Said.May })
}

// P6.
func TestAskedGateLetsTrainsComeAtSoonest(t *testing.T) {
	for warn := range 6 {
		for steps := 1; steps <= 14; steps++ {
			for close := 1; close <= 16; close++ {
				times := impl.Times{Warn: warn, Close: close, Least: 2, Most: 9}
				want := max(warn, 1) + steps
				if steps > close+1 {
					want = -1
				}
				got := firstMay(impl.Drive(times, steps, slices.Repeat(acts("a"), 80)))
				if soonest := impl.Soonest(times, steps); got != want || soonest != want {
					t.Errorf("%+v, %d steps: in tick %d, Soonest is %d, want %d", times, steps, got, soonest, want)
				}
			}
		}
	}
}

// P6: not in the last of the most ticks either, though the bars have long been down.
func TestLateBarsNeverLetTrainsCome(t *testing.T) {
	for _, steps := range []int{3, 4, 14, 1000} {
		times := impl.Times{Warn: 0, Close: 1, Least: 0, Most: 9}
		driven := impl.Drive(times, steps, slices.Repeat(acts("a"), 2000))
		if len(driven) != 2000 || driven[1999].Bar != steps || firstMay(driven) != -1 || impl.Soonest(times, steps) != -1 {
			t.Errorf("%d steps: trains may come in tick %d, Soonest is %d", steps, firstMay(driven), impl.Soonest(times, steps))
		}
	}
}

// visit is a train that asks until it may come, is near and then on the road for some ticks, and has gone in tick gone.
func visit(times impl.Times, steps, near, on int) (list []impl.Act, gone int) {
	for range impl.Soonest(times, steps) + 1 {
		list = append(list, impl.Act{Asked: true})
	}
	list = append(list, slices.Repeat([]impl.Act{{Near: true}}, near)...)
	list = append(list, slices.Repeat([]impl.Act{{On: true}}, on)...)
	gone = len(list)
	return append(list, make([]impl.Act, times.Least+steps+20)...), gone
}

// P7. One wait, from the first tick on, that is used when a train was on the road; behind it the road is open and stays so.
func TestRoadIsOpenBehindATrain(t *testing.T) {
	for _, warn := range []int{0, 1, 2, 5, 100} {
		for _, least := range []int{0, 1, 2, 7, 1000} {
			for steps := 1; steps <= 14; steps++ {
				for _, train := range [][2]int{{0, 0}, {0, 1}, {1, 0}, {1, 1}, {2, 5}, {0, 30}} {
					times := impl.Times{Warn: warn, Close: max(steps-1, 1), Least: least, Most: 40}
					list, gone := visit(times, steps, train[0], train[1])
					checkOpensOnce(t, world{times, steps, list}, gone, train[1] > 0)
				}
			}
		}
	}
}

func checkOpensOnce(t *testing.T, w world, gone int, used bool) {
	t.Helper()
	driven := impl.Drive(w.times, w.steps, w.acts)
	var ticks []impl.Felt
	for tick, d := range driven {
		ticks = append(ticks, feltOf(w.acts[tick], d.Bar, w.steps))
	}
	waits := impl.Waits(w.times, ticks)
	if len(waits) != 1 || waits[0].From != 0 || waits[0].Used != used {
		t.Fatalf("%+v, %d steps: %+v", w.times, w.steps, waits)
	}
	if most := gone + w.times.Least + w.steps + 4; waits[0].To < gone || waits[0].To > most {
		t.Fatalf("%+v, %d steps, gone in tick %d: open in tick %d", w.times, w.steps, gone, waits[0].To)
	}
	for tick := waits[0].To; tick < len(driven); tick++ {
		if driven[tick].Bar != 0 || driven[tick].Said.Gate.Fault {
			t.Fatalf("%+v, %d steps, tick %d: %+v", w.times, w.steps, tick, driven[tick])
		}
	}
}

// stuckFor is a gate that is always asked for, its bars stuck for some ticks from the one in which they are to come down.
func stuckFor(times impl.Times, ticks, n int) []impl.Act {
	list := slices.Repeat(acts("a"), n)
	for i := range ticks {
		list[max(times.Warn, 1)+i].Stuck = true
	}
	return list
}

func firstFault(driven []impl.True) int {
	return slices.IndexFunc(driven, func(d impl.True) bool { return d.Said.Gate.Fault })
}

// P8. The gate is GClosing from tick closing on; bars that are not down Close + 1 ticks later are a fault in that tick.
func TestStuckBarsAreAFault(t *testing.T) {
	for _, warn := range []int{0, 1, 3} {
		for close := 1; close <= 8; close++ {
			for steps := 1; steps <= close+1; steps++ {
				for stuck := range close + 5 {
					times := impl.Times{Warn: warn, Close: close, Least: 2, Most: 30}
					closing := max(warn, 1)
					driven := impl.Drive(times, steps, stuckFor(times, stuck, 60))
					wantFault, wantMay := -1, closing+steps+stuck
					if steps+stuck > close+1 {
						wantFault, wantMay = closing+close+1, -1
					}
					if stuck > close && wantFault < 0 {
						t.Fatalf("Close %d, stuck for %d ticks: no fault is asked for", close, stuck)
					}
					if fault, may := firstFault(driven), firstMay(driven); fault != wantFault || may != wantMay {
						t.Errorf("%+v, %d steps, stuck for %d ticks: fault in %d, may in %d, want %d, %d", times, steps, stuck, fault, may, wantFault, wantMay)
					}
				}
			}
		}
	}
}

// P8. Whoever puts it right while the bars are still not down has put right nothing; behind that trains may come in the tick of Mend.
func TestNoTrainUntilMend(t *testing.T) {
	times := impl.Times{Warn: 2, Close: 3, Least: 2, Most: 30}
	const steps, stuck, ticks = 3, 4, 40
	const late, down = 2 + 3 + 1, 2 + steps + stuck
	for mend := range ticks {
		list := stuckFor(times, stuck, ticks)
		list[mend].Mend = true
		driven := impl.Drive(times, steps, list)
		want := -1
		if mend >= down {
			want = mend
		}
		if fault, may := firstFault(driven), firstMay(driven); fault != late || may != want {
			t.Errorf("mended in tick %d: fault in %d, may in %d, want %d, %d", mend, fault, may, late, want)
		}
		for tick, d := range driven[late:] {
			if mended := want >= 0 && late+tick >= want; d.Said.Gate.Fault == mended || d.Said.May != mended {
				t.Errorf("mended in tick %d, tick %d: %+v", mend, late+tick, d)
			}
		}
	}
}

// P8 over many acts: a fault, once there, ends in a tick of Mend alone; and no train may come while it is there, nor while the bars are not down.
func TestFaultLastsUntilMend(t *testing.T) {
	lasted := 0
	for _, w := range manyWorlds() {
		fault := false
		for tick, d := range impl.Drive(w.times, w.steps, w.acts) {
			if fault && !w.acts[tick].Mend {
				lasted++
				if !d.Said.Gate.Fault || d.Said.May {
					t.Fatalf("%+v, %d steps, %+v, tick %d: %+v", w.times, w.steps, w.acts[:tick+1], tick, d)
				}
			}
			fault = d.Said.Gate.Fault
			if late := d.Said.Gate.State == impl.GClosing && d.Said.Gate.Since > w.times.Close; late && !fault {
				t.Fatalf("%+v, %d steps, %+v, tick %d: late, and %+v", w.times, w.steps, w.acts[:tick+1], tick, d)
			}
		}
	}
	if lasted < 1000 {
		t.Errorf("only %d ticks behind a fault", lasted)
	}
}

// P8: bars that are stuck for good, at each place on their way.
func TestBarsStuckForGood(t *testing.T) {
	times := impl.Times{Warn: 1, Close: 6, Least: 0, Most: 30}
	for steps := 1; steps <= 7; steps++ {
		for from := range steps {
			list := slices.Repeat(acts("a"), 2000)
			for i := 1 + from; i < len(list); i++ {
				list[i].Stuck = true
				list[i].Mend = i%3 == 0
			}
			driven := impl.Drive(times, steps, list)
			if firstMay(driven) != -1 || firstFault(driven) != 1+6+1 || driven[1999].Bar != from || !driven[1999].Said.Gate.Fault {
				t.Errorf("%d steps, stuck at %d: may in tick %d, fault in %d, at last %+v", steps, from, firstMay(driven), firstFault(driven), driven[1999])
			}
		}
	}
}
