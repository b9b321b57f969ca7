package impl

// Times is how long a road is warned, how long its bars may take to come down, for how many ticks they are down at least, and how long a road may be shut at most before somebody is told.
type Times struct {
	Warn  int
	Close int
	Least int
	Most  int
}

// The states of a gate.
const (
	GUp = iota
	GWarning
	GClosing
	GDown
	GOpening
)

// Where the bars are felt to be.
const (
	BUp = iota
	BMoves
	BDown
)

// mostCounted is where Since and Shut stop: a gate may stand for longer than can be counted.
const mostCounted = 1000000000

// Gate is how a gate stands: its state, how long it has been in it, how long the road has been shut, and whether its bars were late or came up by themselves.
type Gate struct {
	State int
	Since int
	Shut  int
	Fault bool
}

// Felt is what is known in a tick: whether a train wants to come, one is near, one is on the road; where the bars are; whether somebody has put right what was wrong.
type Felt struct {
	Asked bool
	Near  bool
	On    bool
	Bars  int
	Mend  bool
}

// Said is what is said in a tick: whether trains may come, whether the road's lights are red, whether the bars are to be down, and whether the road has been shut for too long.
type Said struct {
	Ok   bool
	Gate Gate
	May  bool
	Red  bool
	Down bool
	Long bool
}

// TimesOk tells whether every one of the times is within its limits.
func TimesOk(t Times) bool {
	return within(t.Warn, 0, 100) && within(t.Close, 1, 100) && within(t.Least, 0, 1000) && within(t.Most, 1, 100000)
}

// GateOk tells whether a gate with these times can stand so.
func GateOk(t Times, g Gate) bool {
	if !TimesOk(t) || !within(g.State, GUp, GOpening) {
		return false
	}
	if !within(g.Since, 0, mostCounted) || !within(g.Shut, 0, mostCounted) {
		return false
	}
	switch g.State {
	case GUp:
		return g.Shut == 0
	case GWarning:
		return g.Since <= t.Warn
	}
	return true
}

// FeltOk tells whether there is such a place of the bars.
func FeltOk(f Felt) bool { return within(f.Bars, BUp, BDown) }

// Tick is one tick of a gate: how it stands behind it, and what it says. The zero value when the times, the gate or what is felt is not right.
func Tick(t Times, g Gate, f Felt) Said {
	if !GateOk(t, g) || !FeltOk(f) {
		return Said{}
	}
	g = begin(g, f)
	next, fault := ruleOf(g.State)(t, g, f)
	g = become(g, next)
	g.Fault = g.Fault || fault
	return say(t, g, f, next)
}

func within(n, least, most int) bool { return least <= n && n <= most }

func wanted(f Felt) bool { return f.Asked || f.Near || f.On }

// state is one of those a gate can be in; a type for each, so that what a state shows is told by its type.
type state interface {
	number() int
}

type (
	upState      struct{}
	warningState struct{}
	closingState struct{}
	downState    struct{}
	openingState struct{}
)

func (upState) number() int      { return GUp }
func (warningState) number() int { return GWarning }
func (closingState) number() int { return GClosing }
func (downState) number() int    { return GDown }
func (openingState) number() int { return GOpening }

// rule tells which state a gate goes on in, and whether something is found to be wrong. It is given the gate as begin leaves it.
type rule func(t Times, g Gate, f Felt) (next state, fault bool)

// ruleOf is asked only for a State that GateOk has let pass.
func ruleOf(number int) rule {
	rules := [...]rule{
		GUp:      whenUp,
		GWarning: whenWarning,
		GClosing: whenClosing,
		GDown:    whenDown,
		GOpening: whenOpening,
	}
	return rules[number]
}

// begin is what a tick does whatever the state. Mend comes first, so that what is wrong in this very tick is still a fault.
func begin(g Gate, f Felt) Gate {
	if f.Mend {
		g.Fault = false
	}
	g.Since = min(g.Since+1, mostCounted)
	if g.State != GUp {
		g.Shut = min(g.Shut+1, mostCounted)
	}
	return g
}

func whenUp(t Times, g Gate, f Felt) (state, bool) {
	fault := f.Bars != BUp
	if wanted(f) {
		return warningState{}, fault
	}
	return upState{}, fault
}

func whenWarning(t Times, g Gate, f Felt) (state, bool) {
	if g.Since >= t.Warn {
		return closingState{}, false
	}
	return warningState{}, false
}

func whenClosing(t Times, g Gate, f Felt) (state, bool) {
	if f.Bars == BDown {
		return downState{}, false
	}
	return closingState{}, g.Since > t.Close
}

func whenDown(t Times, g Gate, f Felt) (state, bool) {
	if f.Bars != BDown {
		return closingState{}, true
	}
	if !wanted(f) && g.Since >= t.Least {
		return openingState{}, false
	}
	return downState{}, false
}

func whenOpening(t Times, g Gate, f Felt) (state, bool) {
	if wanted(f) {
		return warningState{}, false
	}
	if f.Bars == BUp {
		return upState{}, false
	}
	return openingState{}, false
}

// become has the gate go on in a state. No rule leads from a state into itself, so one that is the same has only lasted.
func become(g Gate, next state) Gate {
	if g.State != next.number() {
		g.State = next.number()
		g.Since = 0
	}
	if g.State == GUp {
		g.Shut = 0
	}
	return g
}

// shown tells whether the lights are red in a state, and whether the bars are to be down.
func shown(s state) (red, down bool) {
	switch s.(type) {
	case upState:
		return false, false
	case closingState, downState:
		return true, true
	default:
		return true, false
	}
}

func say(t Times, g Gate, f Felt, s state) Said {
	red, down := shown(s)
	return Said{
		Ok:   true,
		Gate: g,
		May:  g.State == GDown && f.Bars == BDown && !g.Fault,
		Red:  red,
		Down: down,
		Long: g.Shut > t.Most && !f.On,
	}
}
