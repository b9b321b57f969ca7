package tests

import (
	"fmt"
	"math"
	"slices"
	"strings"
	"testing"

	"loop.example/wicket/impl"
)

func TestAnswerTellsATrain(t *testing.T) {
	times := impl.Times{Warn: 2, Close: 4, Least: 1, Most: 6}
	want := "0 up\n0 warning\n0 warning\n0 closing\n1 closing\n2 down may\n2 down may\n2 down may\n2 down may\n" +
		"2 opening long\n1 opening long\n0 up\n0 up\n"
	if got := impl.Answer(times, 2, acts(".aaaanooo....")); got != want {
		t.Errorf("%q", got)
	}
}

// Of the eight ways to be may, fault and long, those with both may and fault can't be: trains may not come while something is wrong.
func TestAnswerWords(t *testing.T) {
	for _, c := range []struct {
		name  string
		times impl.Times
		steps int
		acts  string
		want  string
	}{
		{"up alone", plainTimes(), 1, ".", "0 up\n"},
		{"warning alone", plainTimes(), 1, "a", "0 warning\n"},
		{"closing alone", impl.Times{Warn: 0, Close: 1, Least: 0, Most: 5}, 2, "aaa", "0 warning\n0 closing\n1 closing\n"},
		{"down with may, opening alone", impl.Times{Warn: 0, Close: 1, Least: 0, Most: 5}, 1, "aaa..", "0 warning\n0 closing\n1 down may\n1 opening\n0 up\n"},
		{"fault alone while it closes, is down and opens", impl.Times{Warn: 0, Close: 1, Least: 0, Most: 50}, 1, "aAAAaa..a",
			"0 warning\n0 closing\n0 closing\n0 closing fault\n0 closing fault\n1 down fault\n1 opening fault\n0 up fault\n0 warning fault\n"},
		{"mended", impl.Times{Warn: 0, Close: 1, Least: 0, Most: 50}, 1, "aAAAam.", "0 warning\n0 closing\n0 closing\n0 closing fault\n0 closing fault\n1 down may\n1 opening\n"},
		{"long alone", impl.Times{Warn: 3, Close: 1, Least: 0, Most: 1}, 2, "aaaaa", "0 warning\n0 warning\n0 warning long\n0 closing long\n1 closing long\n"},
		{"long while it opens", impl.Times{Warn: 0, Close: 1, Least: 0, Most: 2}, 1, "aaa..", "0 warning\n0 closing\n1 down may\n1 opening long\n0 up\n"},
		{"may and long", impl.Times{Warn: 0, Close: 1, Least: 0, Most: 1}, 1, "aaana", "0 warning\n0 closing\n1 down may long\n1 down may long\n1 down may long\n"},
		{"no long with a train on the road", impl.Times{Warn: 0, Close: 1, Least: 0, Most: 1}, 1, "aaaoa", "0 warning\n0 closing\n1 down may long\n1 down may\n1 down may long\n"},
		{"fault and long", impl.Times{Warn: 0, Close: 1, Least: 0, Most: 3}, 1, "aAAAaoa.", "0 warning\n0 closing\n0 closing\n0 closing fault\n0 closing fault long\n1 down fault\n1 down fault long\n1 opening fault long\n"},
	} {
		if got := impl.Answer(c.times, c.steps, acts(c.acts)); got != c.want {
			t.Errorf("%s, %q:\n got %q\nwant %q", c.name, c.acts, got, c.want)
		}
	}
}

func TestAnswerBarsOfSeveralDigits(t *testing.T) {
	times := impl.Times{Warn: 0, Close: 1, Least: 0, Most: 100000}
	list := slices.Concat(slices.Repeat(acts("a"), 1003), acts("m..a"))
	lines := strings.SplitAfter(impl.Answer(times, 1000, list), "\n")
	for tick, want := range map[int]string{
		0: "0 warning\n", 1: "0 closing\n", 2: "1 closing\n", 3: "2 closing fault\n",
		10: "9 closing fault\n", 11: "10 closing fault\n", 13: "12 closing fault\n",
		100: "99 closing fault\n", 101: "100 closing fault\n", 906: "905 closing fault\n",
		1000: "999 closing fault\n", 1001: "1000 down fault\n", 1002: "1000 down fault\n",
		1003: "1000 down may\n", 1004: "1000 opening\n", 1005: "999 opening\n", 1006: "998 warning\n", 1007: "",
	} {
		if lines[tick] != want {
			t.Errorf("tick %d: %q, want %q", tick, lines[tick], want)
		}
	}
	if len(lines) != 1008 {
		t.Errorf("%d lines", len(lines))
	}
}

// linesByHand is what Answer makes of the ticks of Drive.
func linesByHand(driven []impl.True) string {
	out := ""
	for _, d := range driven {
		out += fmt.Sprintf("%d %s", d.Bar, strings.Fields("up warning closing down opening")[d.Said.Gate.State])
		for _, w := range []struct {
			is   bool
			word string
		}{{d.Said.May, "may"}, {d.Said.Gate.Fault, "fault"}, {d.Said.Long, "long"}} {
			if w.is {
				out += " " + w.word
			}
		}
		out += "\n"
	}
	return out
}

func TestAnswerIsDriveSpelt(t *testing.T) {
	times := impl.Times{Warn: 0, Close: 1, Least: 0, Most: 2}
	for steps := 1; steps <= 2; steps++ {
		for n := range 6 {
			eachList(".oAsm", n, func(letters string) {
				list := acts(letters)
				if got, want := impl.Answer(times, steps, list), linesByHand(drivenByHand(times, steps, list)); got != want {
					t.Fatalf("%d steps, %q:\n got %q\nwant %q", steps, letters, got, want)
				}
			})
		}
	}
}

func TestAnswerMostActs(t *testing.T) {
	list := make([]impl.Act, 2001)
	if got := impl.Answer(plainTimes(), 5, list[:2000]); got != strings.Repeat("0 up\n", 2000) {
		t.Errorf("2000 acts: %d bytes", len(got))
	}
	if got := impl.Answer(plainTimes(), 5, list); got != "" {
		t.Errorf("2001 acts: %d bytes", len(got))
	}
}

func TestAnswerEmptyWhereDriveIsNothing(t *testing.T) {
	list := acts("aaaaaaoo....")
	for _, times := range wrongTimes() {
		for _, steps := range []int{0, 1, 1000, 1001} {
			if got := impl.Answer(times, steps, list); got != "" {
				t.Errorf("%+v, %d steps: %q", times, steps, got)
			}
		}
	}
	for _, steps := range []int{math.MinInt, -1, 0, 1001, math.MaxInt} {
		if got := impl.Answer(plainTimes(), steps, list); got != "" {
			t.Errorf("%d steps: %q", steps, got)
		}
	}
	for _, none := range [][]impl.Act{nil, {}} {
		if got := impl.Answer(plainTimes(), 1, none); got != "" {
			t.Errorf("no acts: %q", got)
		}
	}
	checkLimits(t, plainTimes(), timesLimits(), func(times impl.Times) bool {
		return strings.Count(impl.Answer(times, 3, list), "\n") == len(list)
	})
	checkLimits(t, 1, []limit[int]{{"steps", func(v *int, n int) { *v = n }, 1, 1000}}, func(steps int) bool {
		return strings.Count(impl.Answer(plainTimes(), steps, list), "\n") == len(list)
	})
}
