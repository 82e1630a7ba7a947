package tests

import (
	"slices"
	"testing"

	"loop.example/satelliteclock/impl"
)

func TestLimitsOfPolls(t *testing.T) {
	if impl.MinPower != minPower || impl.MaxPower != maxPower || impl.MaxCount != mostCount || impl.PollGate != pollGate || impl.MaxPolls != mostPolls {
		t.Error("a limit of chapter 13 is not that of the document")
	}
}

func TestValidPoll(t *testing.T) {
	for _, p := range allPolls() {
		if !impl.ValidPoll(p) {
			t.Errorf("%v is not valid", p)
		}
	}
	for _, p := range wrongPolls() {
		if impl.ValidPoll(p) {
			t.Errorf("%v is valid", p)
		}
	}
}

func TestWrongPolls(t *testing.T) {
	for _, p := range wrongPolls() {
		if got := impl.PollSeconds(p); got != -1 {
			t.Errorf("PollSeconds(%v) = %d", p, got)
		}
		for _, offset := range []int{0, 101, -101, farOffset} {
			for _, jitter := range []int{0, 25, farOffset} {
				expectNoPoll(t, p, offset, jitter)
				expectNoPolls(t, p, []int{offset}, jitter)
				expectNoPolls(t, p, nil, jitter)
				expectNoPolls(t, p, []int{}, jitter)
			}
		}
	}
}

func TestP101PollsCanBeginAnew(t *testing.T) {
	for _, p := range allPolls() {
		if anew := (impl.Poll{Power: p.Power}); !impl.ValidPoll(anew) {
			t.Errorf("%v is valid, %v is not", p, anew)
		}
	}
}

func TestPollSeconds(t *testing.T) {
	for n, want := range []int{16, 32, 64, 128, 256, 512, 1024} {
		for count := -mostCount; count <= mostCount; count++ {
			expectPollSeconds(t, impl.Poll{Power: minPower + n, Count: count}, want)
		}
	}
	expectPollSeconds(t, impl.Poll{Power: minPower - 1}, -1)
	expectPollSeconds(t, impl.Poll{Power: maxPower + 1}, -1)
	expectPollSeconds(t, impl.Poll{Power: 6, Count: mostCount + 1}, -1)
	expectPollSeconds(t, impl.Poll{Power: 6, Count: -mostCount - 1}, -1)
}

func TestP102PollsArePowersOfTwoApart(t *testing.T) {
	for _, p := range allPolls() {
		if p.Power == maxPower {
			continue
		}
		seconds := impl.PollSeconds(p)
		if seconds <= 0 {
			t.Errorf("PollSeconds(%v) = %d", p, seconds)
		}
		expectPollSeconds(t, impl.Poll{Power: p.Power + 1, Count: p.Count}, 2*seconds)
	}
}

func TestNextPoll(t *testing.T) {
	near, far := 0, 101
	cases := []struct {
		power  int
		count  int
		offset int
		want   impl.Poll
	}{
		{6, 0, near, impl.Poll{Power: 6, Count: 6}},
		{6, 0, far, impl.Poll{Power: 6, Count: -12}},
		{4, 0, near, impl.Poll{Power: 4, Count: 4}},
		{4, 0, far, impl.Poll{Power: 4, Count: -8}},
		{10, 0, near, impl.Poll{Power: 10, Count: 10}},
		{10, 0, far, impl.Poll{Power: 10, Count: -20}},
		// Full, one before, and one behind.
		{6, 23, near, impl.Poll{Power: 6, Count: 29}},
		{6, 24, near, impl.Poll{Power: 7}},
		{6, 25, near, impl.Poll{Power: 7}},
		{6, -17, far, impl.Poll{Power: 6, Count: -29}},
		{6, -18, far, impl.Poll{Power: 5}},
		{6, -19, far, impl.Poll{Power: 5}},
		// From both limits of counts, and from one before them.
		{6, 30, near, impl.Poll{Power: 7}},
		{6, 29, near, impl.Poll{Power: 7}},
		{6, 30, far, impl.Poll{Power: 6, Count: 18}},
		{6, 29, far, impl.Poll{Power: 6, Count: 17}},
		{6, -30, far, impl.Poll{Power: 5}},
		{6, -29, far, impl.Poll{Power: 5}},
		{6, -30, near, impl.Poll{Power: 6, Count: -24}},
		{6, -29, near, impl.Poll{Power: 6, Count: -23}},
		// The power of now counts, not that of before or behind it.
		{5, 25, near, impl.Poll{Power: 6}},
		{5, 24, near, impl.Poll{Power: 5, Count: 29}},
		{7, -16, far, impl.Poll{Power: 6}},
		{7, -15, far, impl.Poll{Power: 7, Count: -29}},
		// The first and the last power.
		{4, 25, near, impl.Poll{Power: 4, Count: 29}},
		{4, 26, near, impl.Poll{Power: 5}},
		{4, -21, far, impl.Poll{Power: 4, Count: -29}},
		{4, -22, far, impl.Poll{Power: 4}},
		{4, -30, far, impl.Poll{Power: 4}},
		{5, -20, far, impl.Poll{Power: 4}},
		{10, 19, near, impl.Poll{Power: 10, Count: 29}},
		{10, 20, near, impl.Poll{Power: 10}},
		{10, 30, near, impl.Poll{Power: 10}},
		{9, 21, near, impl.Poll{Power: 10}},
		{10, -9, far, impl.Poll{Power: 10, Count: -29}},
		{10, -10, far, impl.Poll{Power: 9}},
		// From one side of 0 to the other, and to 0.
		{6, -5, near, impl.Poll{Power: 6, Count: 1}},
		{6, -6, near, impl.Poll{Power: 6}},
		{6, 12, far, impl.Poll{Power: 6}},
		{6, 11, far, impl.Poll{Power: 6, Count: -1}},
		{10, 30, far, impl.Poll{Power: 10, Count: 10}},
		{10, -30, near, impl.Poll{Power: 10, Count: -20}},
	}
	for _, c := range cases {
		p := impl.Poll{Power: c.power, Count: c.count}
		expectPoll(t, p, c.offset, 25, c.want)
		expectPoll(t, p, -c.offset, 25, c.want)
	}
}

// Exactly PollGate times the jitter, and one more, of both signs.
func TestGateOfPolls(t *testing.T) {
	p := impl.Poll{Power: 6}
	near, far := impl.Poll{Power: 6, Count: 6}, impl.Poll{Power: 6, Count: -12}
	for _, jitter := range []int{0, 1, 2, 25, 1000, farOffset/pollGate - 1} {
		gate := 4 * jitter
		for _, sign := range []int{1, -1} {
			expectPoll(t, p, sign*gate, jitter, near)
			expectPoll(t, p, sign*(gate+1), jitter, far)
			expectPoll(t, p, sign*(gate+2), jitter, far)
			expectPoll(t, p, sign*farOffset, jitter, far)
			if gate > 0 {
				expectPoll(t, p, sign*(gate-1), jitter, near)
			}
		}
	}
	// With a great jitter no offset is too far.
	for _, jitter := range []int{farOffset / pollGate, farOffset/pollGate + 1, farOffset - 1, farOffset} {
		for _, offset := range []int{0, 1, farOffset - 1, farOffset} {
			expectPoll(t, p, offset, jitter, near)
			expectPoll(t, p, -offset, jitter, near)
		}
	}
}

func TestAllPolls(t *testing.T) {
	for _, p := range allPolls() {
		for _, o := range somePollOffsets() {
			expectPoll(t, p, o.offset, o.jitter, plainPoll(p, o.offset, o.jitter))
		}
	}
}

func TestPollsWithWrongOffsets(t *testing.T) {
	for _, p := range []impl.Poll{{Power: 6}, {Power: minPower, Count: -mostCount}, {Power: maxPower, Count: mostCount}} {
		for _, jitter := range []int{0, 25, farOffset} {
			for _, offset := range outside(-farOffset, farOffset) {
				expectNoPoll(t, p, offset, jitter)
			}
		}
		for _, jitter := range outside(0, farOffset) {
			for _, offset := range []int{0, 1, -1, farOffset, -farOffset} {
				expectNoPoll(t, p, offset, jitter)
				expectNoPolls(t, p, []int{offset}, jitter)
			}
			expectNoPolls(t, p, nil, jitter)
		}
	}
}

func TestP103PowersChangeByOne(t *testing.T) {
	for _, p := range allPolls() {
		for _, o := range somePollOffsets() {
			next, ok := impl.NextPoll(p, o.offset, o.jitter)
			if !ok || !impl.ValidPoll(next) || next.Power < p.Power-1 || next.Power > p.Power+1 {
				t.Errorf("NextPoll(%v, %d, %d) = %v, %v", p, o.offset, o.jitter, next, ok)
			}
			if next.Power != p.Power && next.Count != 0 {
				t.Errorf("NextPoll(%v, %d, %d) = %v does not begin anew", p, o.offset, o.jitter, next)
			}
		}
	}
}

func TestP104GoodClocksAreAskedLess(t *testing.T) {
	for _, p := range allPolls() {
		for _, jitter := range []int{0, 1, 25, farOffset} {
			if next, ok := impl.NextPoll(p, 0, jitter); !ok || next.Power < p.Power {
				t.Errorf("NextPoll(%v, 0, %d) = %v, %v", p, jitter, next, ok)
			}
		}
		for _, offset := range []int{1, -1, 5000, -5000, farOffset, -farOffset} {
			if next, ok := impl.NextPoll(p, offset, 0); !ok || next.Power > p.Power {
				t.Errorf("NextPoll(%v, %d, 0) = %v, %v", p, offset, next, ok)
			}
		}
	}
}

func TestP105TheSignOfAnOffsetDoesNotMatterForPolls(t *testing.T) {
	for _, p := range allPolls() {
		for _, o := range somePollOffsets() {
			want, ok := impl.NextPoll(p, o.offset, o.jitter)
			if !ok {
				t.Errorf("NextPoll(%v, %d, %d) fails", p, o.offset, o.jitter)
			}
			expectPoll(t, p, -o.offset, o.jitter, want)
		}
	}
}

func TestRunPolls(t *testing.T) {
	cases := []struct {
		poll    impl.Poll
		offsets []int
		want    impl.Poll
		seconds int
	}{
		{impl.Poll{Power: 4}, nil, impl.Poll{Power: 4}, 0},
		{impl.Poll{Power: 4}, []int{}, impl.Poll{Power: 4}, 0},
		{impl.Poll{Power: 10, Count: -30}, nil, impl.Poll{Power: 10, Count: -30}, 0},
		{impl.Poll{Power: 10, Count: 30}, nil, impl.Poll{Power: 10, Count: 30}, 0},
		{impl.Poll{Power: 4}, []int{0, 100}, impl.Poll{Power: 4, Count: 8}, 32},
		{impl.Poll{Power: 4}, []int{101}, impl.Poll{Power: 4, Count: -8}, 16},
		// Each poll waits as long as the state before it says.
		{impl.Poll{Power: 6, Count: 24}, []int{0}, impl.Poll{Power: 7}, 64},
		{impl.Poll{Power: 6, Count: 24}, []int{0, 0}, impl.Poll{Power: 7, Count: 7}, 64 + 128},
		{impl.Poll{Power: 6, Count: -18}, []int{200}, impl.Poll{Power: 5}, 64},
		{impl.Poll{Power: 6, Count: -18}, []int{200, 0, -200}, impl.Poll{Power: 5, Count: -5}, 64 + 32 + 32},
		{impl.Poll{Power: 10, Count: 30}, []int{0, 0, 0, 0}, impl.Poll{Power: 10}, 4096},
		{impl.Poll{Power: 4, Count: -30}, []int{500, 500, 500, 500, 500}, impl.Poll{Power: 4}, 80},
		// From the first to the last power and back.
		{impl.Poll{Power: 4}, make([]int, 29), impl.Poll{Power: 9, Count: 9}, 8*16 + 6*32 + 5*64 + 5*128 + 4*256 + 512},
		{impl.Poll{Power: 4}, make([]int, mostPolls), impl.Poll{Power: 9, Count: 18}, 8*16 + 6*32 + 5*64 + 5*128 + 4*256 + 2*512},
		{impl.Poll{Power: 10}, slices.Repeat([]int{-101}, mostPolls), impl.Poll{Power: 4, Count: -24}, 2*1024 + 2*512 + 2*256 + 3*128 + 3*64 + 3*32 + 15*16},
	}
	for _, c := range cases {
		expectPolls(t, c.poll, c.offsets, 25, c.want, c.seconds)
	}
}

func TestAllRunsOfPolls(t *testing.T) {
	for _, r := range somePollRuns() {
		want, seconds := plainPolls(r.poll, r.offsets, r.jitter)
		expectPolls(t, r.poll, r.offsets, r.jitter, want, seconds)
	}
}

func TestTooManyPolls(t *testing.T) {
	for _, p := range []impl.Poll{{Power: 6}, {Power: minPower, Count: -mostCount}, {Power: maxPower, Count: mostCount}} {
		for _, count := range []int{mostPolls + 1, mostPolls + 2, 2 * mostPolls, 1000} {
			expectNoPolls(t, p, make([]int, count), 0)
			expectNoPolls(t, p, slices.Repeat([]int{500}, count), 25)
		}
	}
}

// An offset that fails in between, at the beginning and at the end.
func TestRunsWithWrongOffsets(t *testing.T) {
	for _, count := range []int{1, 2, 3, 9, mostPolls} {
		for at := range count {
			for _, wrong := range outside(-farOffset, farOffset) {
				offsets := make([]int, count)
				offsets[at] = wrong
				expectNoPolls(t, impl.Poll{Power: 6}, offsets, 25)
				expectNoPolls(t, impl.Poll{Power: maxPower, Count: mostCount}, offsets, farOffset)
			}
		}
	}
}

func TestP106PollsRunOneByOne(t *testing.T) {
	for _, r := range somePollRuns() {
		want, all, ok := impl.RunPolls(r.poll, r.offsets, r.jitter)
		if !ok {
			t.Errorf("RunPolls(%v, %v, %d) fails", r.poll, r.offsets, r.jitter)
		}
		for k := 0; k <= len(r.offsets); k++ {
			between, first, ok := impl.RunPolls(r.poll, r.offsets[:k], r.jitter)
			if !ok {
				t.Errorf("RunPolls(%v, %v, %d) fails", r.poll, r.offsets[:k], r.jitter)
			}
			expectPolls(t, between, r.offsets[k:], r.jitter, want, all-first)
		}
	}
}

func TestP107PollsTakeTheirTime(t *testing.T) {
	for _, r := range somePollRuns() {
		_, seconds, ok := impl.RunPolls(r.poll, r.offsets, r.jitter)
		if n := len(r.offsets); !ok || seconds < 16*n || seconds > 1024*n {
			t.Errorf("RunPolls(%v, %v, %d) takes %d, %v", r.poll, r.offsets, r.jitter, seconds, ok)
		}
	}
}

func TestP167GoodClocksAreAskedLessAndLess(t *testing.T) {
	for _, p := range allPolls() {
		for count := range mostPolls + 1 {
			for _, jitter := range []int{0, 25, farOffset} {
				got, _, ok := impl.RunPolls(p, make([]int, count), jitter)
				if !ok || got.Power < p.Power {
					t.Errorf("RunPolls(%v) with %d offsets of 0 = %v, %v", p, count, got, ok)
				}
			}
		}
	}
}

func TestOffsetsOfPollsAreNotChanged(t *testing.T) {
	for _, r := range somePollRuns() {
		kept := slices.Clone(r.offsets)
		impl.RunPolls(r.poll, r.offsets, r.jitter)
		if !slices.Equal(r.offsets, kept) {
			t.Errorf("%v became %v", kept, r.offsets)
		}
	}
}

// What one run of polls did is not known to the next one.
func TestPollsKeepNoState(t *testing.T) {
	for _, p := range allPolls() {
		for _, offset := range []int{0, 500} {
			want, ok := impl.NextPoll(p, offset, 25)
			impl.RunPolls(p, slices.Repeat([]int{500 - offset}, mostPolls), 25)
			if !ok {
				t.Errorf("NextPoll(%v, %d, 25) fails", p, offset)
			}
			expectPoll(t, p, offset, 25, want)
		}
	}
}

// expectPollSeconds checks the seconds between two polls.
func expectPollSeconds(t *testing.T, p impl.Poll, want int) {
	t.Helper()
	if got := impl.PollSeconds(p); got != want {
		t.Errorf("PollSeconds(%v) = %d, want %d", p, got, want)
	}
}

// expectPoll checks the state after a poll.
func expectPoll(t *testing.T, p impl.Poll, offset int, jitter int, want impl.Poll) {
	t.Helper()
	if got, ok := impl.NextPoll(p, offset, jitter); got != want || !ok {
		t.Errorf("NextPoll(%v, %d, %d) = %v, %v, want %v", p, offset, jitter, got, ok, want)
	}
}

// expectNoPoll checks that there is no state after a poll.
func expectNoPoll(t *testing.T, p impl.Poll, offset int, jitter int) {
	t.Helper()
	if got, ok := impl.NextPoll(p, offset, jitter); got != (impl.Poll{}) || ok {
		t.Errorf("NextPoll(%v, %d, %d) = %v, %v", p, offset, jitter, got, ok)
	}
}

// expectPolls checks the state after polls, and the seconds that they take.
func expectPolls(t *testing.T, p impl.Poll, offsets []int, jitter int, want impl.Poll, seconds int) {
	t.Helper()
	if got, gotSeconds, ok := impl.RunPolls(p, offsets, jitter); got != want || gotSeconds != seconds || !ok {
		t.Errorf("RunPolls(%v, %v, %d) = %v, %d, %v, want %v, %d", p, offsets, jitter, got, gotSeconds, ok, want, seconds)
	}
}

// expectNoPolls checks that there is no state after polls.
func expectNoPolls(t *testing.T, p impl.Poll, offsets []int, jitter int) {
	t.Helper()
	if got, seconds, ok := impl.RunPolls(p, offsets, jitter); got != (impl.Poll{}) || seconds != 0 || ok {
		t.Errorf("RunPolls(%v, %v, %d) = %v, %d, %v", p, offsets, jitter, got, seconds, ok)
	}
}

// plainPoll returns the state after a poll as the document says it.
func plainPoll(p impl.Poll, offset int, jitter int) impl.Poll {
	if offset < 0 {
		offset = -offset
	}
	if offset <= 4*jitter {
		p.Count += p.Power
		if p.Count >= 30 {
			p.Count = 0
			if p.Power < 10 {
				p.Power++
			}
		}
		return p
	}
	p.Count -= 2 * p.Power
	if p.Count <= -30 {
		p.Count = 0
		if p.Power > 4 {
			p.Power--
		}
	}
	return p
}

// plainPolls returns the state after polls, and the seconds that they take, as
// the document says them.
func plainPolls(p impl.Poll, offsets []int, jitter int) (impl.Poll, int) {
	seconds := 0
	for _, offset := range offsets {
		wait := 1
		for range p.Power {
			wait *= 2
		}
		seconds += wait
		p = plainPoll(p, offset, jitter)
	}
	return p, seconds
}

// allPolls returns all valid states.
func allPolls() []impl.Poll {
	var polls []impl.Poll
	for power := minPower; power <= maxPower; power++ {
		for count := -mostCount; count <= mostCount; count++ {
			polls = append(polls, impl.Poll{Power: power, Count: count})
		}
	}
	return polls
}

// wrongPolls returns states that are not valid, each for one reason.
func wrongPolls() []impl.Poll {
	var polls []impl.Poll
	for _, power := range append(outside(minPower, maxPower), 0, 1, 62, 63, 64) {
		for _, count := range []int{-mostCount, -1, 0, 1, mostCount} {
			polls = append(polls, impl.Poll{Power: power, Count: count})
		}
	}
	for _, count := range outside(-mostCount, mostCount) {
		for power := minPower; power <= maxPower; power++ {
			polls = append(polls, impl.Poll{Power: power, Count: count})
		}
	}
	return polls
}

// pollOffset is an offset, and the jitter with it.
type pollOffset struct {
	offset int
	jitter int
}

// somePollOffsets returns offsets on both sides of the gate.
func somePollOffsets() []pollOffset {
	var list []pollOffset
	for _, jitter := range []int{0, 1, 25, farOffset/pollGate - 1, farOffset / pollGate, farOffset - 1, farOffset} {
		for _, offset := range []int{0, 1, 4*jitter - 1, 4 * jitter, 4*jitter + 1, farOffset - 1, farOffset} {
			if offset >= 0 && offset <= farOffset {
				list = append(list, pollOffset{offset, jitter}, pollOffset{-offset, jitter})
			}
		}
	}
	return list
}

// pollRun is polls, one after the other.
type pollRun struct {
	poll    impl.Poll
	offsets []int
	jitter  int
}

// somePollRuns returns runs of every length from states of every power: of
// near offsets, of far ones, and of both.
func somePollRuns() []pollRun {
	var runs []pollRun
	var d dice
	for n := range 600 {
		jitter := []int{0, 1, 25, farOffset / 8}[n%4]
		offsets := make([]int, n%(mostPolls+1))
		for i := range offsets {
			offsets[i] = 4*jitter - d.throw(jitter+1)
			if d.throw(6) < n%7 {
				offsets[i] += 1 + jitter + d.throw(jitter+1)
			}
			if d.throw(2) == 0 {
				offsets[i] = -offsets[i]
			}
		}
		p := impl.Poll{Power: minPower + d.throw(maxPower-minPower+1), Count: d.throw(2*mostCount+1) - mostCount}
		runs = append(runs, pollRun{p, offsets, jitter})
	}
	return runs
}
