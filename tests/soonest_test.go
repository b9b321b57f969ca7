package tests

import (
	"math"
	"testing"

	"loop.example/wicket/impl"
)

// GWarning from tick 0 on, GClosing from tick max(Warn, 1) on; the bars are felt to be down steps ticks later.
func TestSoonest(t *testing.T) {
	for _, c := range []struct{ warn, close, steps, want int }{
		{2, 4, 1, 3},
		{2, 4, 4, 6},
		{2, 4, 5, 7},
		{2, 4, 6, -1},
		{2, 4, 7, -1},
		{0, 1, 1, 2},
		{0, 1, 2, 3},
		{0, 1, 3, -1},
		{1, 1, 1, 2},
		{1, 1, 2, 3},
		{1, 1, 3, -1},
		{2, 1, 1, 3},
		{2, 1, 2, 4},
		{3, 1, 2, 5},
		{0, 13, 14, 15},
		{0, 12, 14, -1},
		{100, 1, 1, 101},
		{100, 100, 100, 200},
		{100, 100, 101, 201},
		{100, 100, 102, -1},
		{0, 100, 101, 102},
		{0, 100, 102, -1},
		{100, 100, 999, -1},
		{100, 100, 1000, -1},
		{0, 1, 1000, -1},
	} {
		times := impl.Times{Warn: c.warn, Close: c.close, Least: 3, Most: 10}
		if got := impl.Soonest(times, c.steps); got != c.want {
			t.Errorf("%+v, %d steps: %d, want %d", times, c.steps, got, c.want)
		}
	}
}

func TestSoonestCanBeTold(t *testing.T) {
	for _, warn := range []int{0, 1, 2, 7, 99, 100} {
		for close := 1; close <= 100; close++ {
			for _, steps := range []int{1, 2, close, close + 1, close + 2, 2 * close, 1000} {
				want := max(warn, 1) + steps
				if steps > close+1 {
					want = -1
				}
				times := impl.Times{Warn: warn, Close: close, Least: 3, Most: 10}
				if got := impl.Soonest(times, steps); got != want {
					t.Errorf("%+v, %d steps: %d, want %d", times, steps, got, want)
				}
			}
		}
	}
}

// lowered is the first tick in which trains may come, by a gate that is ticked here and bars that are moved as chapter 3 says; -1 when there is none in as many ticks as any run has.
func lowered(times impl.Times, steps int) int {
	var gate impl.Gate
	bar := 0
	for tick := range impl.MaxTicks {
		f := impl.Felt{Asked: true, Bars: impl.BMoves}
		if bar == 0 {
			f.Bars = impl.BUp
		} else if bar == steps {
			f.Bars = impl.BDown
		}
		said := impl.Tick(times, gate, f)
		if said.May {
			return tick
		}
		if said.Down && bar < steps {
			bar++
		} else if !said.Down && bar > 0 {
			bar--
		}
		gate = said.Gate
	}
	return -1
}

func TestSoonestIsWhenTheBarsAreDown(t *testing.T) {
	for _, warn := range []int{0, 1, 2, 5} {
		for close := 1; close <= 16; close++ {
			for steps := 1; steps <= 20; steps++ {
				times := impl.Times{Warn: warn, Close: close, Least: 2, Most: 9}
				if got, want := impl.Soonest(times, steps), lowered(times, steps); got != want {
					t.Errorf("%+v, %d steps: %d, want %d", times, steps, got, want)
				}
			}
		}
	}
}

// How long the bars stay down, and when somebody is told, is behind the first tick in which trains may come.
func TestSoonestHangsNotOnLeastAndMost(t *testing.T) {
	for _, least := range []int{0, 1, 1000} {
		for _, most := range []int{1, 2, 100000} {
			times := impl.Times{Warn: 4, Close: 6, Least: least, Most: most}
			if got := impl.Soonest(times, 7); got != 11 {
				t.Errorf("%+v: %d", times, got)
			}
			if got := impl.Soonest(times, 8); got != -1 {
				t.Errorf("%+v: %d", times, got)
			}
		}
	}
}

func TestSoonestWrongSteps(t *testing.T) {
	for _, times := range []impl.Times{plainTimes(), shortTimes(), {Warn: 100, Close: 100, Least: 1000, Most: 100000}} {
		for _, steps := range []int{math.MinInt, -1000, -1, 0, 1001, 1002, math.MaxInt} {
			if got := impl.Soonest(times, steps); got != -1 {
				t.Errorf("%+v, %d steps: %d", times, steps, got)
			}
		}
	}
}

func TestSoonestLimitsOfTimes(t *testing.T) {
	checkLimits(t, plainTimes(), timesLimits(), func(times impl.Times) bool {
		return impl.Soonest(times, 1) == max(times.Warn, 1)+1
	})
	for _, times := range wrongTimes() {
		for _, steps := range []int{0, 1, 2, 1000, 1001} {
			if got := impl.Soonest(times, steps); got != -1 {
				t.Errorf("%+v, %d steps: %d", times, steps, got)
			}
		}
	}
}

func TestSoonestAnswersTheSameAgain(t *testing.T) {
	times := impl.Times{Warn: 2, Close: 4, Least: 3, Most: 10}
	for range 3 {
		if right, late := impl.Soonest(times, 5), impl.Soonest(times, 6); right != 7 || late != -1 {
			t.Errorf("%d, %d", right, late)
		}
	}
}
