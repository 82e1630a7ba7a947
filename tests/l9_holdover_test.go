package tests

import (
	"math"
	"slices"
	"testing"

	"loop.example/satelliteclock/impl"
)

func TestLimitsOfHoldover(t *testing.T) {
	if impl.MaxError != mostError || impl.MaxWander != mostWander || impl.LockSeconds != lockLong || impl.GoodError != goodError || impl.PoorError != poorError {
		t.Error("a limit of chapter 9 is not that of the document")
	}
	if impl.LevelLocked != 2 || impl.LevelHold != 1 || impl.LevelNone != 0 {
		t.Error("a level is not that of the document")
	}
}

func TestValidState(t *testing.T) {
	for _, s := range someStates() {
		if !impl.ValidState(s) {
			t.Errorf("%v is not valid", s)
		}
	}
	for _, s := range wrongStates() {
		if impl.ValidState(s) {
			t.Errorf("%v is valid", s)
		}
	}
}

func TestWrongStates(t *testing.T) {
	for _, s := range wrongStates() {
		for _, at := range []int{s.Seen, s.Seen + 1, 0, 1, 5000, 5001, lastTime} {
			expectNoErrorAt(t, s, at)
			for _, by := range []int{0, 1, goodError, mostError} {
				expectNotSeen(t, s, at, by)
			}
		}
		expectHold(t, s, -1)
	}
}

func TestP74StatesCanBeBetter(t *testing.T) {
	for _, s := range someStates() {
		exact := impl.State{Wander: s.Wander, Seen: s.Seen}
		steady := impl.State{Error: s.Error, Seen: s.Seen}
		if !impl.ValidState(exact) || !impl.ValidState(steady) {
			t.Errorf("%v is valid, %v or %v is not", s, exact, steady)
		}
	}
}

func TestErrorAt(t *testing.T) {
	cases := []struct {
		first   int
		wander  int
		seconds int
		want    int
	}{
		{0, 0, 0, 0},
		{0, 1, 0, 0},
		{0, 1, 1, 1},
		{0, 1000, 1, 1000},
		{100, 10, 0, 100},
		{100, 10, 1, 110},
		{100, 10, 90, 1000},
		{100, 0, 2000000, 100},
		{mostError, 0, 1000, mostError},
		// A second before the largest error, with it, and behind it.
		{100, 10, 99989, 999990},
		{100, 10, 99990, mostError},
		{100, 10, 99991, mostError},
		{0, 1, 999999, 999999},
		{0, 1, 1000000, mostError},
		{0, 1, 1000001, mostError},
		{0, 1000, 999, 999000},
		{0, 1000, 1000, mostError},
		{0, 1000, 1001, mostError},
		{999999, 1, 1, mostError},
		{999999, 1, 2, mostError},
		{mostError, 1, 0, mostError},
		{mostError, 1, 1, mostError},
		// Past the largest error without being equal to it.
		{1, 1000, 999, 999001},
		{1, 1000, 1000, mostError},
		{999999, 1000, 1, mostError},
		{5, 7, 142856, 999997},
		{5, 7, 142857, mostError},
	}
	for _, c := range cases {
		for _, seen := range []int{0, 1, 1000, lastTime - 2000001} {
			s := impl.State{Error: c.first, Wander: c.wander, Seen: seen}
			expectErrorAt(t, s, seen+c.seconds, c.want)
		}
		s := impl.State{Error: c.first, Wander: c.wander, Seen: lastTime - c.seconds}
		expectErrorAt(t, s, lastTime, c.want)
		expectNoErrorAt(t, s, lastTime+1)
	}
}

// However long nothing was seen, the error does not become too great.
func TestErrorsOfLongTimes(t *testing.T) {
	for _, wander := range []int{1, 2, 999, mostWander} {
		for _, first := range []int{0, 1, goodError, poorError, mostError} {
			expectErrorAt(t, impl.State{Error: first, Wander: wander}, lastTime, mostError)
			expectErrorAt(t, impl.State{Error: first, Wander: wander}, lastTime/2, mostError)
			expectErrorAt(t, impl.State{Error: first, Wander: wander, Seen: lastTime - 1000000}, lastTime, mostError)
		}
	}
}

func TestErrorsOfAllStates(t *testing.T) {
	for _, s := range someStates() {
		for _, at := range timesOfState(s) {
			expectErrorAt(t, s, at, plainError(s, at))
		}
	}
}

func TestTimesThatStatesDoNotHave(t *testing.T) {
	for _, s := range someStates() {
		for _, at := range wrongTimesOfState(s) {
			expectNoErrorAt(t, s, at)
			for _, by := range []int{0, 1, s.Error, goodError, mostError} {
				expectNotSeen(t, s, at, by)
			}
		}
	}
}

func TestP75ErrorsGrow(t *testing.T) {
	for _, s := range someStates() {
		expectErrorAt(t, s, s.Seen, s.Error)
		for _, at := range timesOfState(s) {
			if at == lastTime {
				continue
			}
			grows := impl.ErrorAt(s, at+1) - impl.ErrorAt(s, at)
			if grows < 0 || grows > s.Wander {
				t.Errorf("ErrorAt(%v, %d) grows by %d behind it", s, at, grows)
			}
		}
	}
	// Second by second, without any product.
	for _, s := range []impl.State{{Error: 0, Wander: 1000, Seen: 7}, {Error: 990000, Wander: 3}, {Error: 12345, Wander: 678, Seen: lastTime - 2999}} {
		want := s.Error
		for seconds := range 3000 {
			expectErrorAt(t, s, s.Seen+seconds, want)
			want = min(want+s.Wander, mostError)
		}
	}
}

func TestP150ClocksWithoutWanderKeepTheirErrors(t *testing.T) {
	for _, s := range someStates() {
		steady := impl.State{Error: s.Error, Seen: s.Seen}
		for _, at := range append(timesOfState(s), timesOfState(steady)...) {
			expectErrorAt(t, steady, at, s.Error)
		}
	}
}

func TestLevelAt(t *testing.T) {
	cases := []struct {
		first   int
		wander  int
		seconds int
		want    int
	}{
		{0, 0, 0, impl.LevelLocked},
		{0, 0, lockLong - 1, impl.LevelLocked},
		{0, 0, lockLong, impl.LevelLocked},
		{0, 0, lockLong + 1, impl.LevelHold},
		{0, 0, 3000000, impl.LevelHold},
		{goodError, 0, 0, impl.LevelLocked},
		{goodError, 0, lockLong, impl.LevelLocked},
		{goodError, 0, lockLong + 1, impl.LevelHold},
		{goodError + 1, 0, 0, impl.LevelHold},
		{goodError + 1, 0, lockLong, impl.LevelHold},
		{poorError, 0, 0, impl.LevelHold},
		{poorError, 0, lockLong, impl.LevelHold},
		{poorError, 0, lockLong + 1, impl.LevelHold},
		{poorError, 0, 3000000, impl.LevelHold},
		{poorError + 1, 0, 0, impl.LevelNone},
		{poorError + 1, 0, lockLong, impl.LevelNone},
		{poorError + 1, 0, 3000000, impl.LevelNone},
		{mostError, 0, 0, impl.LevelNone},
		{mostError, mostWander, 0, impl.LevelNone},
		// The error of then counts, not that of now.
		{100, 10, 0, impl.LevelLocked},
		{100, 10, lockLong, impl.LevelLocked},
		{100, 10, lockLong + 1, impl.LevelHold},
		{100, 15, lockLong, impl.LevelLocked},
		{100, 16, 56, impl.LevelLocked},
		{100, 16, 57, impl.LevelHold},
		{400, 10, lockLong - 1, impl.LevelLocked},
		{400, 10, lockLong, impl.LevelLocked},
		{401, 10, lockLong - 1, impl.LevelLocked},
		{401, 10, lockLong, impl.LevelHold},
		{goodError, 1, 0, impl.LevelLocked},
		{goodError, 1, 1, impl.LevelHold},
		{100, 10, 9990, impl.LevelHold},
		{100, 10, 9991, impl.LevelNone},
		{0, mostWander, 1, impl.LevelLocked},
		{0, mostWander, 2, impl.LevelHold},
		{0, mostWander, 100, impl.LevelHold},
		{0, mostWander, 101, impl.LevelNone},
		{poorError, 1, 0, impl.LevelHold},
		{poorError, 1, 1, impl.LevelNone},
		// Never locked, and at an end while others are still locked.
		{99000, mostWander, 1, impl.LevelHold},
		{99000, mostWander, 2, impl.LevelNone},
		// With the largest error.
		{0, 1, 2000000, impl.LevelNone},
	}
	for _, c := range cases {
		for _, seen := range []int{0, 1000, lastTime - c.seconds} {
			expectLevel(t, impl.State{Error: c.first, Wander: c.wander, Seen: seen}, seen+c.seconds, c.want)
		}
	}
}

func TestLevelsOfAllStates(t *testing.T) {
	for _, s := range someStates() {
		for _, at := range timesOfState(s) {
			expectLevel(t, s, at, plainLevel(s, at))
		}
	}
}

func TestP76LevelsFall(t *testing.T) {
	for _, s := range someStates() {
		for _, at := range timesOfState(s) {
			level := impl.LevelAt(s, at)
			if level == impl.LevelLocked && (impl.ErrorAt(s, at) > goodError || at > s.Seen+lockLong) {
				t.Errorf("LevelAt(%v, %d) is locked, with the error %d", s, at, impl.ErrorAt(s, at))
			}
			if at < lastTime && impl.LevelAt(s, at+1) > level {
				t.Errorf("LevelAt(%v, %d) = %d, a second later %d", s, at, level, impl.LevelAt(s, at+1))
			}
		}
	}
}

func TestHoldUntil(t *testing.T) {
	cases := []struct {
		state impl.State
		want  int
	}{
		{impl.State{Error: 100, Wander: 10, Seen: 1000}, 10990},
		{impl.State{Error: 5}, lastTime},
		{impl.State{}, lastTime},
		{impl.State{Seen: lastTime}, lastTime},
		{impl.State{Error: poorError}, lastTime},
		{impl.State{Error: poorError, Seen: 77}, lastTime},
		{impl.State{Error: poorError + 1}, -1},
		{impl.State{Error: poorError + 1, Seen: lastTime}, -1},
		{impl.State{Error: poorError + 1, Wander: 1}, -1},
		{impl.State{Error: mostError}, -1},
		{impl.State{Error: mostError, Wander: mostWander, Seen: 5}, -1},
		// At its end the error is poor, or would become greater.
		{impl.State{Wander: 1}, 100000},
		{impl.State{Wander: 3}, 33333},
		{impl.State{Error: 1, Wander: 3}, 33333},
		{impl.State{Error: 2, Wander: 3}, 33332},
		{impl.State{Wander: mostWander, Seen: 7}, 107},
		{impl.State{Error: 1, Wander: mostWander, Seen: 7}, 106},
		{impl.State{Error: poorError, Wander: 1, Seen: 9}, 9},
		{impl.State{Error: poorError - 1, Wander: 1, Seen: 9}, 10},
		{impl.State{Error: poorError - 1, Wander: 2, Seen: 9}, 9},
		{impl.State{Error: poorError - mostWander, Wander: mostWander, Seen: 9}, 10},
		{impl.State{Error: poorError - mostWander + 1, Wander: mostWander, Seen: 9}, 9},
		{impl.State{Error: poorError, Wander: mostWander}, 0},
		// No clock holds behind the last time.
		{impl.State{Error: 100, Wander: 10, Seen: lastTime - 9991}, lastTime - 1},
		{impl.State{Error: 100, Wander: 10, Seen: lastTime - 9990}, lastTime},
		{impl.State{Error: 100, Wander: 10, Seen: lastTime - 9989}, lastTime},
		{impl.State{Error: 100, Wander: 10, Seen: lastTime}, lastTime},
		{impl.State{Error: poorError, Wander: mostWander, Seen: lastTime}, lastTime},
		{impl.State{Error: poorError, Wander: mostWander, Seen: lastTime - 1}, lastTime - 1},
	}
	for _, c := range cases {
		expectHold(t, c.state, c.want)
	}
}

func TestHoldUntilSecondBySecond(t *testing.T) {
	var d dice
	for range 200 {
		s := impl.State{Error: d.throw(poorError + 2000), Wander: 100 + d.throw(mostWander-99), Seen: d.throw(1000)}
		if d.throw(3) == 0 {
			s.Seen = lastTime - d.throw(200)
		}
		want := -1
		for at := s.Seen; at <= lastTime && impl.LevelAt(s, at) != impl.LevelNone; at++ {
			want = at
		}
		expectHold(t, s, want)
	}
}

func TestP77ClocksHoldForAWhile(t *testing.T) {
	for _, s := range someStates() {
		until := impl.HoldUntil(s)
		if until == -1 {
			continue
		}
		if until < s.Seen || until > lastTime {
			t.Errorf("HoldUntil(%v) = %d", s, until)
		}
		if got := impl.LevelAt(s, until); got != impl.LevelHold && got != impl.LevelLocked {
			t.Errorf("HoldUntil(%v) = %d, with the level %d", s, until, got)
		}
		if until == lastTime {
			continue
		}
		expectLevel(t, s, until+1, impl.LevelNone)
	}
}

func TestP78BadClocksDoNotHold(t *testing.T) {
	for _, s := range someStates() {
		got, bad := impl.HoldUntil(s), impl.LevelAt(s, s.Seen) == impl.LevelNone
		if (got == -1) != bad || bad != (s.Error > poorError) {
			t.Errorf("HoldUntil(%v) = %d, and the level from the beginning is %d", s, got, impl.LevelAt(s, s.Seen))
		}
	}
}

func TestP154SteadyClocksHoldLonger(t *testing.T) {
	for _, s := range someStates() {
		until := impl.HoldUntil(s)
		for _, less := range []int{0, s.Wander / 3, s.Wander / 2, s.Wander - 1} {
			if less < 0 || s.Wander == 0 {
				continue
			}
			steadier := impl.State{Error: s.Error, Wander: less, Seen: s.Seen}
			if got := impl.HoldUntil(steadier); got < until {
				t.Errorf("HoldUntil(%v) = %d, HoldUntil(%v) = %d", s, until, steadier, got)
			}
		}
	}
}

func TestSeenAgain(t *testing.T) {
	s := impl.State{Error: 100, Wander: 10, Seen: 1000}
	cases := []struct {
		at   int
		by   int
		want int
	}{
		// At once.
		{1000, 0, 0},
		{1000, 99, 99},
		{1000, 100, 100},
		{1000, 101, 100},
		{1000, mostError, 100},
		// The error has grown until then.
		{1001, 5000, 110},
		{2000, 50, 50},
		{2000, 10099, 10099},
		{2000, 10100, 10100},
		{2000, 10101, 10100},
		{2000, mostError, 10100},
		{lastTime, 0, 0},
		{lastTime, mostError - 1, mostError - 1},
		{lastTime, mostError, mostError},
	}
	for _, c := range cases {
		expectSeen(t, s, c.at, c.by, impl.State{Error: c.want, Wander: 10, Seen: c.at})
	}
	expectSeen(t, impl.State{}, 0, 0, impl.State{})
	expectSeen(t, impl.State{Error: mostError, Wander: mostWander}, 5, mostError, impl.State{Error: mostError, Wander: mostWander, Seen: 5})
	expectSeen(t, impl.State{Error: mostError, Seen: lastTime}, lastTime, 7, impl.State{Error: 7, Seen: lastTime})
}

func TestAllStatesSeenAgain(t *testing.T) {
	for _, s := range someStates() {
		for _, at := range timesOfState(s) {
			for _, by := range someErrors() {
				expectSeen(t, s, at, by, impl.State{Error: min(by, plainError(s, at)), Wander: s.Wander, Seen: at})
			}
			for _, by := range outside(0, mostError) {
				expectNotSeen(t, s, at, by)
			}
		}
	}
}

func TestP79SatellitesMakeClocksBetter(t *testing.T) {
	for _, s := range someStates() {
		for _, at := range timesOfState(s) {
			for _, by := range someErrors() {
				better, ok := impl.SeenAgain(s, at, by)
				if got := impl.ErrorAt(better, at); !ok || got > by || got < 0 {
					t.Errorf("SeenAgain(%v, %d, %d) = %v, %v", s, at, by, better, ok)
				}
				for _, later := range []int{at, at + 1, at + 100, at + 54321, lastTime} {
					if before := impl.ErrorAt(s, later); impl.ErrorAt(better, later) > before {
						t.Errorf("SeenAgain(%v, %d, %d) = %v, at %d it is worse than before", s, at, by, better, later)
					}
				}
			}
		}
	}
}

func TestP80SeeingTwiceIsSeeingBetter(t *testing.T) {
	for _, s := range someStates() {
		at := min(s.Seen+50, lastTime)
		for _, first := range someErrors() {
			once, ok := impl.SeenAgain(s, at, first)
			if !ok {
				t.Errorf("SeenAgain(%v, %d, %d) fails", s, at, first)
			}
			for _, second := range someErrors() {
				want := impl.State{Error: min(once.Error, second), Wander: s.Wander, Seen: at}
				expectSeen(t, once, at, second, want)
				expectSeen(t, s, at, min(first, second), want)
			}
		}
	}
}

func TestP166ClocksThatSeeSatellitesAreLocked(t *testing.T) {
	for _, s := range someStates() {
		for _, at := range timesOfState(s) {
			for _, by := range []int{0, 1, 100, goodError - 1, goodError} {
				locked, ok := impl.SeenAgain(s, at, by)
				if !ok {
					t.Errorf("SeenAgain(%v, %d, %d) fails", s, at, by)
				}
				expectLevel(t, locked, at, impl.LevelLocked)
			}
		}
	}
	// Satellites that tell less than what was known do not lock a clock.
	poor, _ := impl.SeenAgain(impl.State{Error: mostError}, 5, goodError+1)
	expectLevel(t, poor, 5, impl.LevelHold)
}

// expectErrorAt checks the greatest possible error at a time.
func expectErrorAt(t *testing.T, s impl.State, at int, want int) {
	t.Helper()
	if got := impl.ErrorAt(s, at); got != want {
		t.Errorf("ErrorAt(%v, %d) = %d, want %d", s, at, got, want)
	}
}

// expectNoErrorAt checks that no error and no level are told at a time.
func expectNoErrorAt(t *testing.T, s impl.State, at int) {
	t.Helper()
	expectErrorAt(t, s, at, -1)
	expectLevel(t, s, at, -1)
}

// expectLevel checks how good a state is at a time.
func expectLevel(t *testing.T, s impl.State, at int, want int) {
	t.Helper()
	if got := impl.LevelAt(s, at); got != want {
		t.Errorf("LevelAt(%v, %d) = %d, want %d", s, at, got, want)
	}
}

// expectHold checks until when a clock can be used.
func expectHold(t *testing.T, s impl.State, want int) {
	t.Helper()
	if got := impl.HoldUntil(s); got != want {
		t.Errorf("HoldUntil(%v) = %d, want %d", s, got, want)
	}
}

// expectSeen checks what a state is after satellites are seen again.
func expectSeen(t *testing.T, s impl.State, at int, by int, want impl.State) {
	t.Helper()
	if got, ok := impl.SeenAgain(s, at, by); got != want || !ok {
		t.Errorf("SeenAgain(%v, %d, %d) = %v, %v, want %v", s, at, by, got, ok, want)
	}
}

// expectNotSeen checks that satellites cannot be seen again.
func expectNotSeen(t *testing.T, s impl.State, at int, by int) {
	t.Helper()
	if got, ok := impl.SeenAgain(s, at, by); got != (impl.State{}) || ok {
		t.Errorf("SeenAgain(%v, %d, %d) = %v, %v", s, at, by, got, ok)
	}
}

// plainError returns the greatest possible error as the document says it.
func plainError(s impl.State, at int) int {
	if grown := s.Error + s.Wander*(at-s.Seen); grown < mostError {
		return grown
	}
	return mostError
}

// plainLevel returns how good a state is as the document says it.
func plainLevel(s impl.State, at int) int {
	if at <= s.Seen+lockLong && plainError(s, at) <= goodError {
		return 2
	}
	if plainError(s, at) <= poorError {
		return 1
	}
	return 0
}

// someErrors returns errors, ascending.
func someErrors() []int {
	return []int{0, 1, 100, goodError - 1, goodError, goodError + 1, 50000, poorError - 1, poorError, poorError + 1, mostError - 1, mostError}
}

// someStates returns valid states: all of some errors, wanders and times with
// each other, and thrown ones.
func someStates() []impl.State {
	wanders := []int{0, 1, 2, 10, 16, mostWander - 1, mostWander}
	times := []int{0, 1, 5000, lastTime - 10000, lastTime - lockLong - 1, lastTime - lockLong, lastTime - 1, lastTime}
	var states []impl.State
	for _, first := range someErrors() {
		for _, wander := range wanders {
			for _, seen := range times {
				states = append(states, impl.State{Error: first, Wander: wander, Seen: seen})
			}
		}
	}
	var d dice
	for n := range 200 {
		most := []int{5, goodError, poorError, mostError}[n%4]
		states = append(states, impl.State{Error: d.throw(most + 1), Wander: d.throw([]int{2, 20, mostWander + 1}[n%3]), Seen: d.throw(10000000)})
	}
	return states
}

// wrongStates returns states that are not valid, each for one reason.
func wrongStates() []impl.State {
	var states []impl.State
	for _, first := range outside(0, mostError) {
		states = append(states, impl.State{Error: first}, impl.State{Error: first, Wander: 1, Seen: 5000})
	}
	for _, wander := range outside(0, mostWander) {
		states = append(states, impl.State{Wander: wander}, impl.State{Error: 100, Wander: wander, Seen: 5000})
	}
	for _, seen := range outside(0, lastTime) {
		states = append(states, impl.State{Seen: seen}, impl.State{Error: 100, Wander: 10, Seen: seen})
	}
	return states
}

// timesOfState returns times from Seen on, ascending: the first and the last
// ones, and those around the ends of levels and of growth.
func timesOfState(s impl.State) []int {
	times := []int{s.Seen, s.Seen + 1, s.Seen + lockLong - 1, s.Seen + lockLong, s.Seen + lockLong + 1, s.Seen + 2000000, lastTime - 1, lastTime}
	for _, end := range []int{goodError, poorError, mostError} {
		if s.Wander > 0 && s.Error <= end {
			reached := s.Seen + (end-s.Error)/s.Wander
			times = append(times, reached-1, reached, reached+1, reached+2)
		}
	}
	slices.Sort(times)
	return slices.DeleteFunc(slices.Compact(times), func(at int) bool { return at < s.Seen || at > lastTime })
}

// wrongTimesOfState returns times at which a state does not say anything.
func wrongTimesOfState(s impl.State) []int {
	times := append(outside(s.Seen, lastTime), math.MinInt+s.Seen)
	if s.Seen > 0 {
		times = append(times, 0, s.Seen/2)
	}
	return times
}
