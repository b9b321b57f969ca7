package tests

import (
	"runtime"
	"slices"
	"sync"
	"testing"
	"testing/synctest"

	"loop.example/wicket/impl"
)

// roomyActs is the same list with room behind it, so that a write past its end is to be seen.
func roomyActs(list []impl.Act) (short, all []impl.Act) {
	all = append(slices.Clone(list), acts("Mm!sO")...)
	return all[:len(list)], all
}

// allActs is every act that there is.
func allActs() []impl.Act {
	var out []impl.Act
	for flags := range 32 {
		out = append(out, impl.Act{
			Asked: flags&1 != 0, Near: flags&2 != 0, On: flags&4 != 0, Stuck: flags&8 != 0, Mend: flags&16 != 0,
		})
	}
	return out
}

func TestDriveAndAnswerLeaveWhatIsHandedIn(t *testing.T) {
	lists := [][]impl.Act{{}, acts("a"), acts("aaAAaaaamoo......"), make([]impl.Act, 2000), make([]impl.Act, 2001)}
	lists = append(lists, allActs())
	for _, a := range allActs() {
		lists = append(lists, []impl.Act{a}, slices.Repeat([]impl.Act{a}, 12))
	}
	for _, times := range append(wrongTimes(), plainTimes(), shortTimes()) {
		for _, steps := range []int{0, 1, 4, 1000, 1001} {
			for _, list := range lists {
				short, all := roomyActs(list)
				before := slices.Clone(all)
				impl.Drive(times, steps, short)
				impl.Answer(times, steps, short)
				if !slices.Equal(all, before) {
					t.Fatalf("%+v, %d steps: %+v has become %+v", times, steps, before, all)
				}
			}
		}
	}
}

func TestDriveAnswersNewMemory(t *testing.T) {
	const letters = "aaAAaaaamoo......a..."
	list := acts(letters)
	first := impl.Drive(shortTimes(), 2, list)
	text := impl.Answer(shortTimes(), 2, list)
	want := slices.Clone(first)
	for i := range first {
		first[i] = impl.True{Bar: -9, Said: impl.Said{Gate: impl.Gate{State: 9, Since: -9}, Long: true}}
	}
	_ = append(first, impl.True{Bar: 77})
	if !slices.Equal(list, acts(letters)) {
		t.Errorf("writing over the answer has changed the list: %+v", list)
	}
	second := impl.Drive(shortTimes(), 2, list)
	if !slices.Equal(second, want) {
		t.Errorf("the second answer differs:\n got %+v\nwant %+v", second, want)
	}
	if got := impl.Answer(shortTimes(), 2, list); got != text {
		t.Errorf("the second text differs:\n got %q\nwant %q", got, text)
	}
	for i := range list {
		list[i] = impl.Act{On: true, Mend: true}
	}
	if !slices.Equal(second, want) || text != linesByHand(want) {
		t.Errorf("writing over the list has changed the answer: %+v, %q", second, text)
	}
}

// Another call in between leaves nothing behind: not where the bars were, nor how the gate stood.
func TestSameArgumentSameAnswer(t *testing.T) {
	worlds := manyWorlds()
	worlds = worlds[len(worlds)-300:]
	var driven [][]impl.True
	var texts []string
	for _, w := range worlds {
		driven = append(driven, impl.Drive(w.times, w.steps, w.acts))
		texts = append(texts, impl.Answer(w.times, w.steps, w.acts))
	}
	for i, w := range worlds {
		if !slices.Equal(impl.Drive(w.times, w.steps, w.acts), driven[i]) || impl.Answer(w.times, w.steps, w.acts) != texts[i] {
			t.Errorf("%+v, %d steps: another answer", w.times, w.steps)
		}
	}
}

func TestSameAnswerWhoeverElseAsks(t *testing.T) {
	worlds := manyWorlds()
	worlds = worlds[len(worlds)-16:]
	var all sync.WaitGroup
	for _, w := range worlds {
		want := drivenByHand(w.times, w.steps, w.acts)
		for range 4 {
			all.Go(func() {
				if !slices.Equal(impl.Drive(w.times, w.steps, w.acts), want) {
					t.Errorf("%+v, %d steps: another answer", w.times, w.steps)
				}
			})
		}
	}
	all.Wait()
}

// A bubble fails when it is left while a goroutine in it still waits for somebody.
func TestNoGoroutineIsLeft(t *testing.T) {
	for _, list := range [][]impl.Act{nil, acts("."), acts("aaAAaaaamoo......"), acts("aaa"), make([]impl.Act, 2000), make([]impl.Act, 2001)} {
		for _, steps := range []int{0, 1, 3, 1000, 1001} {
			synctest.Test(t, func(t *testing.T) {
				impl.Drive(plainTimes(), steps, list)
				impl.Answer(shortTimes(), steps, list)
				impl.Drive(impl.Times{}, steps, list)
				impl.Soonest(plainTimes(), steps)
			})
		}
	}
}

// On one processor a goroutine that nobody waits for has not run when the call answers, and one that is waited for has ended, unless it is held up in its very last moment; so it is asked many times.
func TestBarsHaveEndedWhenDriveAnswers(t *testing.T) {
	defer runtime.GOMAXPROCS(runtime.GOMAXPROCS(1))
	const times = 200
	left := 0
	for range times {
		before := runtime.NumGoroutine()
		impl.Drive(plainTimes(), 2, acts("aa"))
		if runtime.NumGoroutine() > before {
			left++
		}
		runtime.Gosched()
	}
	if left > times/2 {
		t.Errorf("a goroutine is left behind %d of %d calls", left, times)
	}
}
