package tests

import (
	"math"
	"slices"
	"testing"

	"loop.example/satelliteclock/impl"
)

func TestLimitOfSamples(t *testing.T) {
	if impl.MaxSamples != mostSamples {
		t.Error("the limit of chapter 6 is not that of the document")
	}
}

func TestValidSamples(t *testing.T) {
	for _, list := range sampleLists() {
		if !impl.ValidSamples(list) {
			t.Errorf("%v is not valid", list)
		}
	}
	for _, list := range wrongSampleLists() {
		if impl.ValidSamples(list) {
			t.Errorf("%v is valid", list)
		}
	}
}

func TestWrongSamples(t *testing.T) {
	for _, list := range wrongSampleLists() {
		if got := impl.MedianOffset(list); got != 0 {
			t.Errorf("MedianOffset(%v) = %d", list, got)
		}
		if got, ok := impl.BestSample(list); ok || got != (impl.Sample{}) {
			t.Errorf("BestSample(%v) = %v, %v", list, got, ok)
		}
		if got := impl.JitterOf(list); got != -1 {
			t.Errorf("JitterOf(%v) = %d", list, got)
		}
		for _, slack := range []int{0, 1, farOffset} {
			if got := impl.WithoutSpikes(list, slack); got != nil {
				t.Errorf("WithoutSpikes(%v, %d) = %v", list, slack, got)
			}
		}
		if len(list) > 0 {
			expectNotAdded(t, list, impl.Sample{At: lastTime})
			expectNotAdded(t, list, impl.Sample{Offset: 5, Delay: 5, At: 5000})
		}
	}
}

func TestP45SamplesCanBeLeftOut(t *testing.T) {
	for _, list := range sampleLists() {
		for n := range list {
			if fewer := slices.Delete(slices.Clone(list), n, n+1); len(fewer) > 0 && !impl.ValidSamples(fewer) {
				t.Errorf("%v is valid, %v is not", list, fewer)
			}
		}
	}
}

func TestMedianOffset(t *testing.T) {
	cases := []struct {
		offsets []int
		want    int
	}{
		{[]int{0}, 0},
		{[]int{-5}, -5},
		{[]int{1, 2}, 1},
		{[]int{2, 1}, 1},
		{[]int{-2, -1}, -2},
		{[]int{-farOffset, farOffset}, -farOffset},
		{[]int{farOffset, farOffset}, farOffset},
		{[]int{9, 1, 5}, 5},
		{[]int{5, 5, 1}, 5},
		{[]int{4, 3, 2, 1}, 2},
		{[]int{-1, -10, 10, 1}, -1},
		{[]int{7, 7, 7, 8, 8, 8, 8}, 8},
		{[]int{8, 7, 6, 5, 4, 3, 2, 1}, 4},
		{[]int{0, 0, 0, 0, 1, 1, 1, 1}, 0},
		{[]int{0, 0, 0, 1, 1, 1, 1, 1}, 1},
	}
	for _, c := range cases {
		list := samplesOf(c.offsets...)
		if got := impl.MedianOffset(list); got != c.want {
			t.Errorf("MedianOffset(%v) = %d, want %d", list, got, c.want)
		}
	}
}

func TestP46TheMiddleIsInTheMiddle(t *testing.T) {
	for _, list := range sampleLists() {
		middle := impl.MedianOffset(list)
		below, equal, above := 0, 0, 0
		for _, s := range list {
			switch {
			case s.Offset < middle:
				below++
			case s.Offset > middle:
				above++
			default:
				equal++
			}
		}
		// The middle is the smaller one of two, so those below it are fewer than half.
		if equal == 0 || 2*below >= len(list) || 2*above > len(list) {
			t.Errorf("MedianOffset(%v) = %d: %d below it, %d above it", list, middle, below, above)
		}
	}
}

func TestP47OneSampleIsItsOwnMiddle(t *testing.T) {
	offsets := []int{-farOffset, -2, -1, 0, 1, 2, farOffset}
	for _, a := range offsets {
		if got := impl.MedianOffset(samplesOf(a)); got != a {
			t.Errorf("MedianOffset of %d = %d", a, got)
		}
		for _, b := range offsets {
			if got := impl.MedianOffset(samplesOf(a, b)); got != min(a, b) {
				t.Errorf("MedianOffset of %d and %d = %d", a, b, got)
			}
		}
	}
}

func TestBestSample(t *testing.T) {
	cases := []struct {
		delays []int
		best   int
	}{
		{[]int{0}, 0},
		{[]int{farOffset}, 0},
		{[]int{3, 3}, 1},
		{[]int{3, 4}, 0},
		{[]int{4, 3}, 1},
		{[]int{0, 0, 0}, 2},
		{[]int{5, 2, 5, 2, 5}, 3},
		{[]int{farOffset, farOffset, farOffset, farOffset}, 3},
		{[]int{farOffset, 0, farOffset}, 1},
		{[]int{7, 6, 5, 4, 5, 6, 7, 8}, 3},
		{[]int{9, 9, 9, 9, 9, 9, 9, 9}, 7},
	}
	for _, c := range cases {
		var list []impl.Sample
		for n, delay := range c.delays {
			list = append(list, impl.Sample{Offset: 10 - n, Delay: delay, At: 100 + n})
		}
		expectBest(t, list, list[c.best])
	}
}

func TestP48TheBestSampleWasFastest(t *testing.T) {
	for _, list := range sampleLists() {
		best, ok := impl.BestSample(list)
		at := slices.Index(list, best)
		if !ok || at < 0 {
			t.Errorf("BestSample(%v) = %v, %v", list, best, ok)
			continue
		}
		for n, s := range list {
			if s.Delay < best.Delay || n > at && s.Delay == best.Delay {
				t.Errorf("BestSample(%v) = %v, but %v is as good", list, best, s)
			}
		}
	}
}

func TestP49NewSamplesCanBeBest(t *testing.T) {
	for _, list := range append(sampleLists(), nil) {
		if timeOfLast(list) == lastTime {
			continue
		}
		for _, offset := range []int{-farOffset, 0, 7} {
			s := impl.Sample{Offset: offset, At: timeOfLast(list) + 1}
			more, ok := impl.AddSample(list, s)
			if !ok {
				t.Errorf("AddSample(%v, %v) fails", list, s)
			}
			expectBest(t, more, s)
		}
	}
}

func TestJitterOf(t *testing.T) {
	cases := []struct {
		offsets []int
		// best is the index of the sample without delay.
		best int
		want int
	}{
		{[]int{5}, 0, 0},
		{[]int{0, 1}, 0, 0},
		{[]int{0, 2}, 0, 1},
		{[]int{0, -3}, 1, 1},
		{[]int{-5, 0, 0}, 0, 3},
		{[]int{-5, 0, 0}, 1, 1},
		{[]int{10, 30, 20}, 2, 6},
		{[]int{10, 30, 20}, 0, 10},
		{[]int{-10, 10, -10, 10}, 0, 10},
		{[]int{-1, 0, 1, 0, -1, 0, 1}, 1, 0},
		{[]int{farOffset, -farOffset}, 0, farOffset},
		{[]int{-farOffset, farOffset, farOffset, farOffset, farOffset, farOffset, farOffset, farOffset}, 0, 2 * farOffset * 7 / 8},
		{[]int{-farOffset, farOffset, farOffset, farOffset, farOffset, farOffset, farOffset, farOffset}, 1, 2 * farOffset / 8},
	}
	for _, c := range cases {
		list := samplesOf(c.offsets...)
		list[c.best].Delay = 0
		if got := impl.JitterOf(list); got != c.want {
			t.Errorf("JitterOf(%v) = %d, want %d", list, got, c.want)
		}
	}
}

// The jitter of samples with equal delays is that to the last one.
func TestJitterWithEqualDelays(t *testing.T) {
	if got := impl.JitterOf(samplesOf(0, 0, 9)); got != 6 {
		t.Errorf("JitterOf = %d, want 6", got)
	}
	if got := impl.JitterOf(samplesOf(9, 0, 0)); got != 3 {
		t.Errorf("JitterOf = %d, want 3", got)
	}
}

func TestP50EqualOffsetsHaveNoJitter(t *testing.T) {
	for _, list := range sampleLists() {
		for _, s := range list {
			if got := impl.JitterOf([]impl.Sample{s}); got != 0 {
				t.Errorf("JitterOf %v alone = %d", s, got)
			}
		}
		low, high := list[0].Offset, list[0].Offset
		for _, s := range list {
			low, high = min(low, s.Offset), max(high, s.Offset)
		}
		if got := impl.JitterOf(list); got < 0 || got > high-low {
			t.Errorf("JitterOf(%v) = %d", list, got)
		}
	}
}

func TestP51JitterDoesNotDependOnTheOffset(t *testing.T) {
	for _, list := range sampleLists() {
		for _, by := range []int{3, -3, 1000} {
			shifted := slices.Clone(list)
			want := impl.JitterOf(list)
			for n := range shifted {
				shifted[n].Offset += by
				if shifted[n].Offset < -farOffset || shifted[n].Offset > farOffset {
					want = -1
				}
			}
			if got := impl.JitterOf(shifted); got != want {
				t.Errorf("JitterOf(%v) = %d, want %d", shifted, got, want)
			}
		}
	}
}

func TestP164SamplesThatAgreeHaveNoJitter(t *testing.T) {
	for _, list := range sampleLists() {
		for _, offset := range []int{-farOffset, -1, 0, 1, farOffset, list[0].Offset} {
			equal := slices.Clone(list)
			for n := range equal {
				equal[n].Offset = offset
			}
			if jitter, middle := impl.JitterOf(equal), impl.MedianOffset(equal); jitter != 0 || middle != offset {
				t.Errorf("JitterOf(%v) = %d, MedianOffset %d", equal, jitter, middle)
			}
		}
	}
}

func TestP52NewSamplesAreLast(t *testing.T) {
	for _, list := range append(sampleLists(), nil, []impl.Sample{}) {
		last := timeOfLast(list)
		for _, at := range []int{last + 1, last + 2, lastTime} {
			s := impl.Sample{Offset: -farOffset, Delay: farOffset, At: at}
			if at > lastTime || at == last {
				expectNotAdded(t, list, s)
				continue
			}
			got, ok := impl.AddSample(list, s)
			if !ok || len(got) > mostSamples || len(got) == 0 || got[len(got)-1] != s {
				t.Fatalf("AddSample(%v, %v) = %v, %v", list, s, got, ok)
			}
			before := got[:len(got)-1]
			if !slices.Equal(before, list[len(list)-len(before):]) {
				t.Errorf("AddSample(%v, %v) = %v", list, s, got)
			}
		}
	}
}

func TestP53OldSamplesGo(t *testing.T) {
	var list []impl.Sample
	for n := range 30 {
		s := impl.Sample{Offset: n - 15, Delay: n % 4, At: 10 * n}
		want := append(slices.Clone(list), s)
		if len(list) == mostSamples {
			want = want[1:]
		}
		got, ok := impl.AddSample(list, s)
		if !ok || !slices.Equal(got, want) {
			t.Fatalf("AddSample(%v, %v) = %v, %v, want %v", list, s, got, ok, want)
		}
		list = got
	}
	for _, list := range sampleLists() {
		if timeOfLast(list) == lastTime {
			continue
		}
		s := impl.Sample{At: lastTime}
		got, _ := impl.AddSample(list, s)
		if full := len(list) == mostSamples; len(got) == 0 || (got[0] == list[0]) == full || len(got) != min(len(list)+1, mostSamples) {
			t.Errorf("AddSample(%v, %v) = %v", list, s, got)
		}
	}
}

func TestSamplesThatAreNotAdded(t *testing.T) {
	for _, list := range append(sampleLists(), nil, []impl.Sample{}) {
		last := timeOfLast(list)
		var wrong []impl.Sample
		for _, at := range append(outside(0, lastTime), last, last-1, 0) {
			if at <= last || at > lastTime {
				wrong = append(wrong, impl.Sample{At: at})
			}
		}
		for _, offset := range outside(-farOffset, farOffset) {
			wrong = append(wrong, impl.Sample{Offset: offset, At: min(last+1, lastTime)})
		}
		for _, delay := range append(outside(0, farOffset), -farOffset) {
			wrong = append(wrong, impl.Sample{Delay: delay, At: min(last+1, lastTime)})
		}
		for _, s := range wrong {
			expectNotAdded(t, list, s)
		}
	}
}

// A list that is too long, or wrong only in its first sample, stays wrong
// although the result would not have that sample.
func TestOnlyValidSamplesGetMore(t *testing.T) {
	var list []impl.Sample
	for n := range mostSamples + 1 {
		list = append(list, impl.Sample{Offset: n, Delay: n, At: 10 * n})
	}
	expectNotAdded(t, list, impl.Sample{At: 1000})
	full := list[1:]
	if got, ok := impl.AddSample(full, impl.Sample{At: 1000}); !ok || len(got) != mostSamples {
		t.Errorf("AddSample(%v) = %v, %v", full, got, ok)
	}
	for _, first := range []impl.Sample{{At: -1}, {At: full[1].At}, {Offset: farOffset + 1, At: 1}, {Delay: -1, At: 1}} {
		wrong := slices.Clone(full)
		wrong[0] = first
		expectNotAdded(t, wrong, impl.Sample{At: 1000})
	}
}

func TestWithoutSpikes(t *testing.T) {
	cases := []struct {
		offsets []int
		// best is the index of the sample without delay.
		best  int
		slack int
		want  []int
	}{
		{[]int{5}, 0, 0, []int{5}},
		{[]int{0, 100}, 0, 0, []int{0, 100}},
		// The jitter is 33, so that 99 is not too far away.
		{[]int{0, 0, 100}, 0, 0, []int{0, 0}},
		{[]int{0, 0, 100}, 0, 1, []int{0, 0, 100}},
		{[]int{0, 0, -100}, 0, 0, []int{0, 0}},
		{[]int{0, -100, 0}, 0, 1, []int{0, -100, 0}},
		// The jitter is 12, and the spikes are the first and the last one.
		{[]int{50, 0, 0, 0, 0, 0, 0, -50}, 3, 13, []int{0, 0, 0, 0, 0, 0}},
		{[]int{50, 0, 0, 0, 0, 0, 0, -50}, 3, 14, []int{50, 0, 0, 0, 0, 0, 0, -50}},
		// The best one is a spike, and the jitter is great.
		{[]int{50, 0, 0, 0}, 0, 0, []int{50, 0, 0, 0}},
		// Too far away for any slack.
		{[]int{-farOffset, -farOffset, -farOffset, -farOffset, -farOffset, -farOffset, -farOffset, farOffset}, 0, farOffset, []int{-farOffset, -farOffset, -farOffset, -farOffset, -farOffset, -farOffset, -farOffset}},
		{[]int{0, 0, 0, 0, 0, 0, 0, farOffset}, 0, farOffset - 3*farOffset/8, []int{0, 0, 0, 0, 0, 0, 0, farOffset}},
		{[]int{0, 0, 0, 0, 0, 0, 0, farOffset}, 0, farOffset - 3*farOffset/8 - 1, []int{0, 0, 0, 0, 0, 0, 0}},
	}
	for _, c := range cases {
		list := samplesOf(c.offsets...)
		list[c.best].Delay = 0
		var got []int
		for _, s := range impl.WithoutSpikes(list, c.slack) {
			got = append(got, s.Offset)
		}
		if !slices.Equal(got, c.want) {
			t.Errorf("WithoutSpikes(%v, %d) has the offsets %v, want %v", list, c.slack, got, c.want)
		}
	}
}

func TestP54SpikesAreFarAway(t *testing.T) {
	for _, list := range sampleLists() {
		middle, jitter := impl.MedianOffset(list), impl.JitterOf(list)
		slacks := []int{0, 1, 10, 1000, farOffset - 1, farOffset}
		for _, s := range list {
			// The least slack with which a sample is kept, and one less.
			least := plainDistance(s.Offset, middle) - 3*jitter
			slacks = append(slacks, least, least-1)
		}
		for _, slack := range slacks {
			if slack < 0 || slack > farOffset {
				continue
			}
			var want []impl.Sample
			for _, s := range list {
				if plainDistance(s.Offset, middle) <= 3*jitter+slack {
					want = append(want, s)
				}
			}
			if got := impl.WithoutSpikes(list, slack); !slices.Equal(got, want) {
				t.Errorf("WithoutSpikes(%v, %d) = %v, want %v", list, slack, got, want)
			}
		}
	}
}

func TestP55MoreSlackKeepsMore(t *testing.T) {
	for _, list := range sampleLists() {
		kept := 1
		for _, slack := range []int{0, 1, 2, 5, 100, 10000, farOffset - 1, farOffset} {
			got := len(impl.WithoutSpikes(list, slack))
			if got < kept || got > len(list) {
				t.Errorf("WithoutSpikes(%v, %d) has %d samples, with less slack %d", list, slack, got, kept)
			}
			kept = got
		}
	}
}

func TestWrongSlacks(t *testing.T) {
	for _, list := range sampleLists() {
		for _, slack := range outside(0, farOffset) {
			if got := impl.WithoutSpikes(list, slack); got != nil {
				t.Errorf("WithoutSpikes(%v, %d) = %v", list, slack, got)
			}
		}
	}
}

func TestSamplesAreNotChanged(t *testing.T) {
	lists := append(sampleLists(), wrongSampleLists()...)
	for n, kept := range append(sampleLists(), wrongSampleLists()...) {
		list := lists[n]
		impl.ValidSamples(list)
		impl.MedianOffset(list)
		impl.BestSample(list)
		impl.JitterOf(list)
		impl.AddSample(list, impl.Sample{At: lastTime})
		impl.WithoutSpikes(list, 0)
		if !slices.Equal(list, kept) {
			t.Errorf("%v became %v", kept, list)
		}
	}
}

// A list may have room behind it that belongs to somebody else.
func TestResultsOfSamplesAreNew(t *testing.T) {
	for size := range mostSamples + 1 {
		place := make([]impl.Sample, 0, 2*mostSamples)
		for n := range size + 1 {
			place = append(place, impl.Sample{Offset: n, At: 10 * n})
		}
		kept := slices.Clone(place)
		list := place[:size]
		more, ok := impl.AddSample(list, impl.Sample{Offset: 77, At: 1000})
		if !ok || !slices.Equal(place, kept) {
			t.Errorf("AddSample to the first %d of %v made them %v", size, kept, place)
		}
		for _, result := range [][]impl.Sample{more, impl.WithoutSpikes(list, farOffset)} {
			for n := range result {
				result[n] = impl.Sample{Offset: -1}
			}
			_ = append(result, impl.Sample{Offset: -1})
			if !slices.Equal(place, kept) {
				t.Errorf("a result shares memory with %v", kept)
			}
		}
	}
}

// expectBest checks which sample is the best one.
func expectBest(t *testing.T, list []impl.Sample, want impl.Sample) {
	t.Helper()
	if got, ok := impl.BestSample(list); got != want || !ok {
		t.Errorf("BestSample(%v) = %v, %v, want %v", list, got, ok, want)
	}
}

// expectNotAdded checks that a sample cannot be added.
func expectNotAdded(t *testing.T, list []impl.Sample, s impl.Sample) {
	t.Helper()
	if got, ok := impl.AddSample(list, s); ok || got != nil {
		t.Errorf("AddSample(%v, %v) = %v, %v", list, s, got, ok)
	}
}

// plainDistance returns how far two numbers are apart.
func plainDistance(a int, b int) int {
	if a < b {
		return b - a
	}
	return a - b
}

// timeOfLast returns the time of the last sample, or -1 if there is none.
func timeOfLast(list []impl.Sample) int {
	if len(list) == 0 {
		return -1
	}
	return list[len(list)-1].At
}

// samplesOf returns samples by their offsets, a second apart and all with the
// same delay.
func samplesOf(offsets ...int) []impl.Sample {
	var list []impl.Sample
	for n, offset := range offsets {
		list = append(list, impl.Sample{Offset: offset, Delay: 9, At: 100 + n})
	}
	return list
}

// sampleLists returns valid samples of every number, with offsets and delays
// that are near each other, equal, or anywhere.
func sampleLists() [][]impl.Sample {
	lists := [][]impl.Sample{
		{{}},
		{{At: lastTime}},
		{{At: 0}, {At: lastTime}},
		{{At: lastTime - 1}, {At: lastTime}},
		{{At: 0}, {At: 1}},
		{{Offset: -farOffset, Delay: farOffset}, {Offset: farOffset, Delay: farOffset, At: 1}},
		samplesOf(0, 0, 0, 0, 0, 0, 0, 0),
		samplesOf(-farOffset, -farOffset, -farOffset, -farOffset, -farOffset, -farOffset, -farOffset, farOffset),
		samplesOf(-4, -3, -2, -1, 0, 1, 2, 3),
	}
	latest := samplesOf(1, 2, 3, 4, 5, 6, 7, 8)
	for n := range latest {
		latest[n].At = lastTime - mostSamples + 1 + n
	}
	lists = append(lists, latest)
	var d dice
	for n := range 600 {
		var list []impl.Sample
		at := -1
		offsets := []int{2, 5, 100, farOffset}[n/mostSamples%4]
		delays := []int{1, 2, 3, 10, farOffset}[n/mostSamples%5]
		for range 1 + n%mostSamples {
			at += 1 + d.throw([]int{1, 5, 100000}[n%3])
			list = append(list, impl.Sample{Offset: d.throw(2*offsets+1) - offsets, Delay: d.throw(delays + 1), At: at})
		}
		lists = append(lists, list)
	}
	return lists
}

// wrongSampleLists returns samples that are not valid, each list for one
// reason.
func wrongSampleLists() [][]impl.Sample {
	lists := [][]impl.Sample{nil, {}}
	var full []impl.Sample
	for n := range mostSamples {
		full = append(full, impl.Sample{Offset: 7 + n, Delay: 20 - n, At: 100 * (n + 1)})
	}
	lists = append(lists, append(slices.Clone(full), impl.Sample{Offset: 5, Delay: 5, At: 100 * (mostSamples + 1)}))
	for at, right := range full {
		var wrong []impl.Sample
		for _, offset := range outside(-farOffset, farOffset) {
			wrong = append(wrong, impl.Sample{Offset: offset, Delay: right.Delay, At: right.At})
		}
		for _, delay := range outside(0, farOffset) {
			wrong = append(wrong, impl.Sample{Offset: right.Offset, Delay: delay, At: right.At})
		}
		times := outside(0, lastTime)
		if at > 0 {
			times = append(times, full[at-1].At, full[at-1].At-1, full[0].At, 0)
		}
		if at < mostSamples-1 {
			times = append(times, full[at+1].At, full[at+1].At+1, lastTime)
		}
		for _, time := range times {
			wrong = append(wrong, impl.Sample{Offset: right.Offset, Delay: right.Delay, At: time})
		}
		for _, s := range wrong {
			list := slices.Clone(full)
			list[at] = s
			lists = append(lists, list)
		}
	}
	for _, wrong := range []impl.Sample{{Offset: 5, At: -1}, {Offset: 5, At: lastTime + 1}, {Offset: farOffset + 1}, {Offset: -farOffset - 1}, {Offset: 5, Delay: -1}, {Offset: 5, Delay: farOffset + 1}, {Offset: math.MinInt}, {Offset: math.MaxInt}} {
		lists = append(lists, []impl.Sample{wrong})
	}
	backward := slices.Clone(full)
	slices.Reverse(backward)
	return append(lists, backward, samplesAt(5, 5), samplesAt(6, 5), samplesAt(lastTime, lastTime), samplesAt(5, 6, 6), samplesAt(5, 6, 5))
}

// samplesAt returns samples by their times.
func samplesAt(times ...int) []impl.Sample {
	var list []impl.Sample
	for _, at := range times {
		list = append(list, impl.Sample{Offset: 5, Delay: 5, At: at})
	}
	return list
}
