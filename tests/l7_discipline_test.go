package tests

import (
	"math"
	"slices"
	"testing"

	"loop.example/satelliteclock/impl"
)

func TestLimitsOfDiscipline(t *testing.T) {
	if impl.MaxRate != fastRate || impl.RateSeconds != rateLong || impl.MaxSpan != longestSpan || impl.StepFrom != stepFrom || impl.SlewSeconds != slewLong {
		t.Error("a limit of chapter 7 is not that of the document")
	}
}

func TestValidClock(t *testing.T) {
	for _, c := range someClocks() {
		if !impl.ValidClock(c) {
			t.Errorf("%v is not valid", c)
		}
	}
	for _, c := range wrongClocks() {
		if impl.ValidClock(c) {
			t.Errorf("%v is valid", c)
		}
	}
}

func TestWrongClocks(t *testing.T) {
	for _, c := range wrongClocks() {
		for _, at := range []int{c.At, c.At + 1, 0, 1, 5000, 5001, lastTime} {
			expectNotTold(t, c, at)
			for _, offset := range []int{0, 1, stepFrom, stepFrom + 1} {
				expectNotStepped(t, c, at, offset)
			}
			expectNotRun(t, c, samplesAt(at))
		}
		expectNotRun(t, c, nil)
		expectNotRun(t, c, []impl.Sample{})
		if got := impl.CrossesZero(c); got != -1 {
			t.Errorf("CrossesZero(%v) = %d", c, got)
		}
	}
}

func TestP56ClocksCanBeRight(t *testing.T) {
	for _, c := range someClocks() {
		right := impl.Clock{Rate: c.Rate, At: c.At}
		steady := impl.Clock{Offset: c.Offset, At: c.At}
		if !impl.ValidClock(right) || !impl.ValidClock(steady) {
			t.Errorf("%v is valid, %v or %v is not", c, right, steady)
		}
	}
}

func TestOffsetAt(t *testing.T) {
	cases := []struct {
		offset  int
		rate    int
		seconds int
		want    int
	}{
		{0, 0, 0, 0},
		{7, 0, longestSpan, 7},
		{100, 10, 1000, 110},
		{100, 10, 99, 100},
		{100, 10, 100, 101},
		{100, 10, 199, 101},
		// Rounded down, not towards 0.
		{100, -10, 1, 99},
		{100, -10, 50, 99},
		{100, -10, 100, 99},
		{100, -10, 101, 98},
		{0, -1, 1, -1},
		{0, -1, 1000, -1},
		{0, -1, 1001, -2},
		{-1, 1, 999, -1},
		{-1, 1, 1000, 0},
		{5, 999, 1, 5},
		{5, -999, 1, 4},
		{5, 1001, 1, 6},
		{5, -1001, 1, 3},
		// An offset that is told is not limited.
		{farOffset, fastRate, longestSpan, 51000000},
		{-farOffset, -fastRate, longestSpan, -51000000},
		{-farOffset, fastRate, longestSpan, 49000000},
		{farOffset, 1, longestSpan, farOffset + 100},
		{-farOffset, -1, 1, -farOffset - 1},
	}
	for _, c := range cases {
		for _, at := range []int{0, 1, 1000, lastTime - longestSpan} {
			clock := impl.Clock{Offset: c.offset, Rate: c.rate, At: at}
			if got, ok := impl.OffsetAt(clock, at+c.seconds); got != c.want || !ok {
				t.Errorf("OffsetAt(%v, %d) = %d, %v, want %d", clock, at+c.seconds, got, ok, c.want)
			}
		}
	}
}

func TestTimesOfClocks(t *testing.T) {
	for _, c := range someClocks() {
		for _, at := range timesOf(c) {
			want := c.Offset + plainFloor(c.Rate*(at-c.At), rateLong)
			if got, ok := impl.OffsetAt(c, at); got != want || !ok {
				t.Errorf("OffsetAt(%v, %d) = %d, %v, want %d", c, at, got, ok, want)
			}
		}
		for _, at := range wrongTimesOf(c) {
			expectNotTold(t, c, at)
			for _, offset := range []int{0, -1, 40, stepFrom + 1} {
				expectNotStepped(t, c, at, offset)
			}
			expectNotRun(t, c, samplesAt(at))
		}
	}
}

func TestP57ClocksDrift(t *testing.T) {
	for _, c := range someClocks() {
		expectOffset(t, c, c.At, c.Offset)
		if c.At+rateLong <= lastTime {
			expectOffset(t, c, c.At+rateLong, c.Offset+c.Rate)
		}
	}
}

func TestP58ClocksWithoutARateStay(t *testing.T) {
	for _, c := range someClocks() {
		steady := impl.Clock{Offset: c.Offset, At: c.At}
		for _, at := range timesOf(c) {
			expectOffset(t, steady, at, c.Offset)
		}
		if c.Rate <= 0 {
			continue
		}
		before := c.Offset
		for _, at := range timesOf(c) {
			got := offsetOf(t, c, at)
			if got < before {
				t.Errorf("OffsetAt(%v, %d) = %d, before that %d", c, at, got, before)
			}
			before = got
		}
	}
}

func TestP147SteadyRatesAreEven(t *testing.T) {
	for _, thousands := range []int{-500, -3, -1, 0, 1, 2, 500} {
		for _, offset := range []int{-farOffset, -1, 0, 1, farOffset} {
			c := impl.Clock{Offset: offset, Rate: thousands * rateLong, At: 77}
			for seconds := range 3000 {
				expectOffset(t, c, c.At+seconds, offset+thousands*seconds)
			}
			expectOffset(t, c, c.At+longestSpan, offset+thousands*longestSpan)
		}
	}
}

func TestStepClock(t *testing.T) {
	cases := []struct {
		offset int
		rate   int
		by     int
		// The offset and the rate behind a step at once.
		wantOffset int
		wantRate   int
	}{
		{0, 0, 0, 0, 0},
		{110, 10, 200000, -199890, 10},
		{110, 10, 40, 100, 1},
		// The quarter and the change of the rate are rounded down.
		{0, 0, 1, 0, 0},
		{0, 0, 3, 0, 0},
		{0, 0, 4, -1, 0},
		{0, 0, 5, -1, -1},
		{0, 0, 7, -1, -1},
		{0, 0, 8, -2, -1},
		{0, 0, 9, -2, -2},
		{0, 0, -1, 1, 1},
		{0, 0, -4, 1, 1},
		{0, 0, -5, 2, 2},
		{0, 0, -8, 2, 2},
		{0, 0, -9, 3, 3},
		{0, 0, 4096, -1024, -1000},
		{0, 0, -4096, 1024, 1000},
		{0, 0, 4097, -1024, -1000},
		{0, 0, -4097, 1025, 1001},
		// The last offsets that change the rate, and the first ones that do not.
		{0, 7, stepFrom, -32000, 7 - 31250},
		{0, 7, -stepFrom, 32000, 7 + 31250},
		{0, 7, stepFrom - 1, -31999, 7 - 31249},
		{0, 7, -stepFrom + 1, 32000, 7 + 31250},
		{0, 7, stepFrom + 1, -stepFrom - 1, 7},
		{0, 7, -stepFrom - 1, stepFrom + 1, 7},
		{0, 7, farOffset, -farOffset, 7},
		{0, 7, -farOffset, farOffset, 7},
		// Limited offsets.
		{-1, 7, farOffset, -farOffset, 7},
		{1, 7, -farOffset, farOffset, 7},
		{1, 7, farOffset, -farOffset + 1, 7},
		{-farOffset, 7, farOffset, -farOffset, 7},
		{farOffset, 7, -farOffset, farOffset, 7},
		{farOffset, 7, farOffset, 0, 7},
		{-farOffset, 0, 3, -farOffset, 0},
		{-farOffset, 0, 4, -farOffset, 0},
		{-farOffset + 1, 0, 4, -farOffset, 0},
		{-farOffset + 1, 0, 8, -farOffset, -1},
		{farOffset, 0, -1, farOffset, 1},
		{farOffset - 1, 0, -1, farOffset, 1},
		{farOffset - 1, 0, -5, farOffset, 2},
		// Limited rates.
		{0, -fastRate, 5, -1, -fastRate},
		{0, -fastRate + 1, 5, -1, -fastRate},
		{0, -fastRate + 1, 9, -2, -fastRate},
		{0, -fastRate, stepFrom, -32000, -fastRate},
		{0, fastRate, -1, 1, fastRate},
		{0, fastRate - 1, -1, 1, fastRate},
		{0, fastRate - 1, -5, 2, fastRate},
		{0, fastRate, -stepFrom, 32000, fastRate},
		{0, fastRate, stepFrom, -32000, fastRate - 31250},
		{0, -fastRate, -stepFrom, 32000, -fastRate + 31250},
	}
	for _, c := range cases {
		for _, at := range []int{0, 1000, lastTime} {
			before := impl.Clock{Offset: c.offset, Rate: c.rate, At: at}
			expectStep(t, before, at, c.by, impl.Clock{Offset: c.wantOffset, Rate: c.wantRate, At: at})
		}
	}
}

// Only the result is limited, not the offset before the step.
func TestStepsFromFarAway(t *testing.T) {
	ahead := impl.Clock{Offset: farOffset, Rate: 200000, At: 5}
	expectStep(t, ahead, 2005, 500000, impl.Clock{Offset: 900000, Rate: 200000, At: 2005})
	expectStep(t, ahead, 2005, 400000, impl.Clock{Offset: farOffset, Rate: 200000, At: 2005})
	expectStep(t, ahead, 2005, 399999, impl.Clock{Offset: farOffset, Rate: 200000, At: 2005})
	expectStep(t, ahead, 5+longestSpan, farOffset, impl.Clock{Offset: farOffset, Rate: 200000, At: 5 + longestSpan})
	expectStep(t, impl.Clock{Offset: farOffset, Rate: 20, At: 5}, 1005, 100, impl.Clock{Offset: farOffset - 5, Rate: -4, At: 1005})
	behind := impl.Clock{Offset: -farOffset, Rate: -200000, At: 5}
	expectStep(t, behind, 2005, -500000, impl.Clock{Offset: -900000, Rate: -200000, At: 2005})
	expectStep(t, behind, 2005, -399999, impl.Clock{Offset: -farOffset, Rate: -200000, At: 2005})
	expectStep(t, behind, 5+longestSpan, -farOffset, impl.Clock{Offset: -farOffset, Rate: -200000, At: 5 + longestSpan})
	expectStep(t, impl.Clock{Offset: -farOffset, Rate: -20, At: 5}, 1005, -100, impl.Clock{Offset: -farOffset + 5, Rate: 5, At: 1005})
}

func TestStepsOfAllClocks(t *testing.T) {
	for _, c := range someClocks() {
		for _, at := range timesOf(c) {
			for _, offset := range someSteps() {
				expectStep(t, c, at, offset, plainStep(c, at, offset))
			}
		}
	}
}

func TestWrongSteps(t *testing.T) {
	for _, c := range someClocks() {
		for _, at := range timesOf(c) {
			for _, offset := range outside(-farOffset, farOffset) {
				expectNotStepped(t, c, at, offset)
			}
		}
	}
}

func TestP59StepsBringClocksNearer(t *testing.T) {
	for _, c := range someClocks() {
		for _, at := range timesOf(c) {
			for _, offset := range []int{stepFrom + 1, stepFrom + 2, 500000, farOffset, -stepFrom - 1, -stepFrom - 2, -500000, -farOffset} {
				got := stepOf(t, c, at, offset)
				want := max(-farOffset, min(farOffset, offsetOf(t, c, at)-offset))
				if got.Rate != c.Rate || offsetOf(t, got, at) != want {
					t.Errorf("StepClock(%v, %d, %d) = %v, want the offset %d", c, at, offset, got, want)
				}
			}
		}
	}
}

func TestP60RightClocksAreLeftAlone(t *testing.T) {
	for _, c := range someClocks() {
		for _, at := range timesOf(c) {
			limited := max(-farOffset, min(farOffset, offsetOf(t, c, at)))
			expectStep(t, c, at, 0, impl.Clock{Offset: limited, Rate: c.Rate, At: at})
		}
	}
}

func TestP61ClocksThatAreAheadAreSlowedDown(t *testing.T) {
	for _, c := range someClocks() {
		for _, offset := range []int{1, 3, 4, 5, 100, 4096, 50000, stepFrom - 1, stepFrom} {
			if got := stepOf(t, c, c.At, offset); got.Rate > c.Rate || got.Offset > c.Offset {
				t.Errorf("StepClock(%v, %d, %d) = %v is faster", c, c.At, offset, got)
			}
			if got := stepOf(t, c, c.At, -offset); got.Rate < c.Rate || got.Offset < c.Offset {
				t.Errorf("StepClock(%v, %d, %d) = %v is slower", c, c.At, -offset, got)
			}
		}
	}
}

func TestP165SmallStepsBringClocksToRest(t *testing.T) {
	for offset := -stepFrom; offset <= stepFrom; offset += 1 + plainDistance(offset, 0)/40 {
		for _, c := range []impl.Clock{{Offset: offset}, {Offset: offset, Rate: -fastRate}, {Offset: offset, Rate: 3, At: lastTime}} {
			got := stepOf(t, c, c.At, offset)
			if plainDistance(got.Offset, 0) > plainDistance(offset, 0) {
				t.Errorf("StepClock(%v) by its offset = %v", c, got)
			}
		}
	}
	for _, c := range someClocks() {
		for _, at := range timesOf(c) {
			offset := offsetOf(t, c, at)
			if plainDistance(offset, 0) > stepFrom {
				continue
			}
			if got := stepOf(t, c, at, offset); plainDistance(got.Offset, 0) > plainDistance(offset, 0) {
				t.Errorf("StepClock(%v, %d, %d) = %v", c, at, offset, got)
			}
		}
	}
}

func TestP146WithoutSamplesClocksStay(t *testing.T) {
	for _, c := range someClocks() {
		expectRun(t, c, nil, c)
		expectRun(t, c, []impl.Sample{}, c)
	}
}

func TestRunClock(t *testing.T) {
	c := impl.Clock{Offset: 100, Rate: 10, At: 1000}
	expectRun(t, c, []impl.Sample{{Offset: 200000, At: 1000}, {Offset: 40, At: 2000}}, impl.Clock{Offset: -199900, Rate: 1, At: 2000})
	// A sample at At corrects the clock before it has drifted.
	expectRun(t, c, []impl.Sample{{Offset: 100, At: 1000}}, impl.Clock{Offset: 75, Rate: -14, At: 1000})
	expectRun(t, c, []impl.Sample{{Offset: 100, At: 1001}}, impl.Clock{Offset: 75, Rate: -14, At: 1001})
	// The delay of a sample does not matter.
	expectRun(t, c, []impl.Sample{{Offset: 100, Delay: farOffset, At: 1100}}, impl.Clock{Offset: 76, Rate: -14, At: 1100})
	expectRun(t, c, []impl.Sample{{At: 1000 + longestSpan}}, impl.Clock{Offset: 1100, Rate: 10, At: 1000 + longestSpan})
	// The rate is that behind the correction before.
	expectRun(t, c, []impl.Sample{{Offset: 4096, At: 1000}, {At: 2000}, {Offset: -4096, At: 2001}}, impl.Clock{Offset: -891, Rate: 10, At: 2001})
	expectRun(t, impl.Clock{At: lastTime}, samplesAt(lastTime), impl.Clock{Offset: -1, Rate: -1, At: lastTime})
	// Each time is near the one before, although the last one is far from the first.
	expectRun(t, impl.Clock{Rate: 1}, []impl.Sample{{At: longestSpan}, {At: 2 * longestSpan}, {At: 3 * longestSpan}}, impl.Clock{Offset: 300, Rate: 1, At: 3 * longestSpan})
}

func TestRunsThatFail(t *testing.T) {
	c := impl.Clock{Offset: 100, Rate: 10, At: 1000}
	for _, list := range [][]impl.Sample{
		samplesAt(999),
		samplesAt(0),
		samplesAt(999, 1000),
		samplesAt(999, 1000, 2000),
		samplesAt(1001 + longestSpan),
		samplesAt(1000, 1001+longestSpan),
		samplesAt(1000, 1500, 1501+longestSpan),
		samplesAt(1000, 1001+longestSpan, 1002+longestSpan),
		samplesAt(lastTime),
	} {
		expectNotRun(t, c, list)
	}
	expectNotRun(t, impl.Clock{At: lastTime}, samplesAt(lastTime-1))
	expectNotRun(t, impl.Clock{At: lastTime}, samplesAt(lastTime-1, lastTime))
}

func TestRunsWithWrongSamples(t *testing.T) {
	for _, list := range wrongSampleLists() {
		if len(list) == 0 {
			continue
		}
		expectNotRun(t, impl.Clock{}, list)
		expectNotRun(t, impl.Clock{Offset: 5, Rate: -5, At: 100}, list)
	}
	// As many samples as are allowed, and one more.
	times := []int{10, 20, 30, 40, 50, 60, 70, 80, 90}
	expectRun(t, impl.Clock{Offset: 5}, samplesAt(times[:mostSamples]...), plainRun(impl.Clock{Offset: 5}, samplesAt(times[:mostSamples]...)))
	expectNotRun(t, impl.Clock{Offset: 5}, samplesAt(times...))
}

func TestP62ClocksAreCorrectedOneByOne(t *testing.T) {
	for _, list := range sampleLists() {
		for _, c := range clocksBefore(list) {
			stepped, ok := c, true
			for _, s := range list {
				if ok {
					stepped, ok = impl.StepClock(stepped, s.At, s.Offset)
				}
			}
			if !ok {
				expectNotRun(t, c, list)
				continue
			}
			expectRun(t, c, list, stepped)
			expectRun(t, c, list, plainRun(c, list))
		}
	}
}

func TestP63CorrectionsCanBeMadeInParts(t *testing.T) {
	for _, list := range sampleLists() {
		for _, c := range clocksBefore(list) {
			want, wantOk := impl.RunClock(c, list)
			for n := range len(list) + 1 {
				got, ok := impl.RunClock(c, list[:n])
				if ok {
					got, ok = impl.RunClock(got, list[n:])
				}
				if got != want || ok != wantOk {
					t.Errorf("RunClock(%v, %v) = %v, %v, in parts of %d and the others %v, %v", c, list, want, wantOk, n, got, ok)
				}
			}
		}
	}
}

func TestCrossesZero(t *testing.T) {
	cases := []struct {
		offset int
		rate   int
		// seconds is how long it takes, or -1.
		seconds int
	}{
		{100, -10, 9901},
		{-100, 10, 10000},
		// At once: rounded down, any time takes a microsecond from a clock that loses.
		{1, -1, 1},
		{1, -fastRate, 1},
		{1, -999, 1},
		{2, -1, 1001},
		{2, -999, 2},
		{2, -1000, 2},
		{2, -1001, 1},
		{500, -fastRate, 1},
		{501, -fastRate, 2},
		{-1, fastRate, 1},
		{-500, fastRate, 1},
		{-501, fastRate, 2},
		{-1, 1000, 1},
		{-1, 999, 2},
		{-1, 1, 1000},
		// Past zero without being right.
		{3, -2500, 1},
		{-3, 2000, 2},
		// At the last second, and never.
		{100, -1, 99001},
		{101, -1, -1},
		{100100, -1001, longestSpan},
		{100101, -1001, -1},
		{-100, 1, longestSpan},
		{-101, 1, -1},
		{200, -2, 99501},
		{201, -2, -1},
		{-199, 2, 99500},
		{-200, 2, longestSpan},
		{-201, 2, -1},
		{farOffset, -10000, longestSpan},
		{farOffset, -9999, -1},
		{farOffset, -1, -1},
		{farOffset, -fastRate, 2000},
		{-farOffset, 10000, longestSpan},
		{-farOffset, 9999, -1},
		{-farOffset, fastRate, 2000},
	}
	for _, c := range cases {
		for _, at := range []int{0, 5, lastTime - longestSpan} {
			clock := impl.Clock{Offset: c.offset, Rate: c.rate, At: at}
			want := -1
			if c.seconds >= 0 {
				want = at + c.seconds
			}
			expectCrossing(t, clock, want)
		}
	}
}

// No clock is told behind the last time.
func TestCrossingsNearTheLastTime(t *testing.T) {
	for _, c := range []struct {
		offset  int
		rate    int
		seconds int
	}{{100, -10, 9901}, {-100, 10, 10000}, {1, -1, 1}, {-1, fastRate, 1}, {100100, -1001, longestSpan}, {-100, 1, longestSpan}} {
		expectCrossing(t, impl.Clock{Offset: c.offset, Rate: c.rate, At: lastTime - c.seconds}, lastTime)
		expectCrossing(t, impl.Clock{Offset: c.offset, Rate: c.rate, At: lastTime - c.seconds + 1}, -1)
		expectCrossing(t, impl.Clock{Offset: c.offset, Rate: c.rate, At: lastTime}, -1)
	}
}

func TestP64ClocksCrossZeroOnce(t *testing.T) {
	for _, c := range someClocks() {
		if c.Offset*c.Rate >= 0 {
			continue
		}
		got := impl.CrossesZero(c)
		if got == -1 {
			if last := min(c.At+longestSpan, lastTime); hasCrossed(t, c, last) {
				t.Errorf("CrossesZero(%v) = -1, but it has crossed zero at %d", c, last)
			}
			continue
		}
		if got <= c.At || !hasCrossed(t, c, got) || hasCrossed(t, c, got-1) {
			t.Errorf("CrossesZero(%v) = %d", c, got)
		}
	}
}

func TestFirstCrossings(t *testing.T) {
	var d dice
	for range 300 {
		c := impl.Clock{Offset: 1 + d.throw(40), Rate: -1 - d.throw(3000), At: d.throw(1000)}
		if d.throw(2) == 0 {
			c.Offset, c.Rate = -c.Offset, -c.Rate
		}
		want := c.At
		for want <= c.At+longestSpan && !hasCrossed(t, c, want) {
			want++
		}
		if want > c.At+longestSpan {
			want = -1
		}
		expectCrossing(t, c, want)
	}
}

func TestP65ClocksThatRunAwayDoNotComeBack(t *testing.T) {
	for _, c := range someClocks() {
		if c.Offset*c.Rate >= 0 {
			expectCrossing(t, c, -1)
		}
		expectCrossing(t, impl.Clock{Rate: c.Rate, At: c.At}, -1)
		expectCrossing(t, impl.Clock{Offset: c.Offset, At: c.At}, -1)
	}
	expectCrossing(t, impl.Clock{}, -1)
}

// Valid clocks do not become wrong by any correction.
func TestCorrectedClocksAreValid(t *testing.T) {
	for _, c := range someClocks() {
		for _, at := range timesOf(c) {
			for _, offset := range someSteps() {
				if got := stepOf(t, c, at, offset); !impl.ValidClock(got) || got.At != at {
					t.Errorf("StepClock(%v, %d, %d) = %v", c, at, offset, got)
				}
			}
		}
	}
}

func TestSamplesOfRunsAreNotChanged(t *testing.T) {
	lists := append(sampleLists(), wrongSampleLists()...)
	for n, kept := range append(sampleLists(), wrongSampleLists()...) {
		impl.RunClock(impl.Clock{Offset: 5, Rate: 7}, lists[n])
		if !slices.Equal(lists[n], kept) {
			t.Errorf("%v became %v", kept, lists[n])
		}
	}
}

// expectOffset checks the offset of a clock at a time.
func expectOffset(t *testing.T, c impl.Clock, at int, want int) {
	t.Helper()
	if got, ok := impl.OffsetAt(c, at); got != want || !ok {
		t.Errorf("OffsetAt(%v, %d) = %d, %v, want %d", c, at, got, ok, want)
	}
}

// expectNotTold checks that the offset of a clock is not told at a time.
func expectNotTold(t *testing.T, c impl.Clock, at int) {
	t.Helper()
	if got, ok := impl.OffsetAt(c, at); got != 0 || ok {
		t.Errorf("OffsetAt(%v, %d) = %d, %v", c, at, got, ok)
	}
}

// expectStep checks what a clock is behind a step.
func expectStep(t *testing.T, c impl.Clock, at int, offset int, want impl.Clock) {
	t.Helper()
	if got, ok := impl.StepClock(c, at, offset); got != want || !ok {
		t.Errorf("StepClock(%v, %d, %d) = %v, %v, want %v", c, at, offset, got, ok, want)
	}
}

// expectNotStepped checks that a step fails.
func expectNotStepped(t *testing.T, c impl.Clock, at int, offset int) {
	t.Helper()
	if got, ok := impl.StepClock(c, at, offset); got != (impl.Clock{}) || ok {
		t.Errorf("StepClock(%v, %d, %d) = %v, %v", c, at, offset, got, ok)
	}
}

// expectRun checks what a clock is behind corrections.
func expectRun(t *testing.T, c impl.Clock, list []impl.Sample, want impl.Clock) {
	t.Helper()
	if got, ok := impl.RunClock(c, list); got != want || !ok {
		t.Errorf("RunClock(%v, %v) = %v, %v, want %v", c, list, got, ok, want)
	}
}

// expectNotRun checks that corrections fail.
func expectNotRun(t *testing.T, c impl.Clock, list []impl.Sample) {
	t.Helper()
	if got, ok := impl.RunClock(c, list); got != (impl.Clock{}) || ok {
		t.Errorf("RunClock(%v, %v) = %v, %v", c, list, got, ok)
	}
}

// expectCrossing checks when a clock crosses zero.
func expectCrossing(t *testing.T, c impl.Clock, want int) {
	t.Helper()
	if got := impl.CrossesZero(c); got != want {
		t.Errorf("CrossesZero(%v) = %d, want %d", c, got, want)
	}
}

// offsetOf returns the offset of a clock at a time at which it is told.
func offsetOf(t *testing.T, c impl.Clock, at int) int {
	t.Helper()
	got, ok := impl.OffsetAt(c, at)
	if !ok {
		t.Errorf("OffsetAt(%v, %d) fails", c, at)
	}
	return got
}

// stepOf returns a clock behind a step that succeeds.
func stepOf(t *testing.T, c impl.Clock, at int, offset int) impl.Clock {
	t.Helper()
	got, ok := impl.StepClock(c, at, offset)
	if !ok {
		t.Errorf("StepClock(%v, %d, %d) fails", c, at, offset)
	}
	return got
}

// hasCrossed reports whether the offset of a clock is 0 or has the sign of its
// rate at a time.
func hasCrossed(t *testing.T, c impl.Clock, at int) bool {
	t.Helper()
	offset := offsetOf(t, c, at)
	return offset == 0 || offset > 0 == (c.Rate > 0)
}

// plainStep returns a clock behind a step, as the document says it.
func plainStep(c impl.Clock, at int, offset int) impl.Clock {
	now := c.Offset + plainFloor(c.Rate*(at-c.At), rateLong)
	if plainDistance(offset, 0) > stepFrom {
		return impl.Clock{Offset: max(-farOffset, min(farOffset, now-offset)), Rate: c.Rate, At: at}
	}
	now -= plainFloor(offset, 4)
	rate := c.Rate - plainFloor(offset*rateLong, slewLong)
	return impl.Clock{Offset: max(-farOffset, min(farOffset, now)), Rate: max(-fastRate, min(fastRate, rate)), At: at}
}

// plainRun returns a clock behind corrections that succeed.
func plainRun(c impl.Clock, list []impl.Sample) impl.Clock {
	for _, s := range list {
		c = plainStep(c, s.At, s.Offset)
	}
	return c
}

// someSteps returns offsets for steps, ascending.
func someSteps() []int {
	return []int{-farOffset, -500000, -stepFrom - 1, -stepFrom, -stepFrom + 1, -4097, -4096, -1001, -5, -4, -1, 0, 1, 3, 4, 5, 999, 4096, 4099, stepFrom - 1, stepFrom, stepFrom + 1, 700001, farOffset}
}

// someClocks returns valid clocks: all of some offsets, rates and times with
// each other, and thrown ones.
func someClocks() []impl.Clock {
	offsets := []int{-farOffset, -farOffset + 1, -stepFrom - 1, -501, -100, -1, 0, 1, 2, 101, 500, stepFrom, farOffset - 1, farOffset}
	rates := []int{-fastRate, -fastRate + 1, -1001, -1000, -999, -3, -1, 0, 1, 2, 999, 1000, 1001, 10000, fastRate - 1, fastRate}
	times := []int{0, 1000, lastTime - longestSpan - 1, lastTime - longestSpan, lastTime - longestSpan + 1, lastTime - 1, lastTime}
	var clocks []impl.Clock
	for _, offset := range offsets {
		for _, rate := range rates {
			for _, at := range times {
				clocks = append(clocks, impl.Clock{Offset: offset, Rate: rate, At: at})
			}
		}
	}
	var d dice
	for n := range 400 {
		offset, rate := []int{5, 1000, stepFrom, farOffset}[n%4], []int{2, 5000, fastRate}[n%3]
		clocks = append(clocks, impl.Clock{Offset: d.throw(2*offset+1) - offset, Rate: d.throw(2*rate+1) - rate, At: d.throw(10000000)})
	}
	return clocks
}

// wrongClocks returns clocks that are not valid, each for one reason.
func wrongClocks() []impl.Clock {
	var clocks []impl.Clock
	for _, offset := range outside(-farOffset, farOffset) {
		clocks = append(clocks, impl.Clock{Offset: offset, Rate: -1, At: 5000}, impl.Clock{Offset: offset}, impl.Clock{Offset: offset, Rate: 1})
	}
	for _, rate := range outside(-fastRate, fastRate) {
		clocks = append(clocks, impl.Clock{Offset: -1, Rate: rate, At: 5000}, impl.Clock{Rate: rate}, impl.Clock{Offset: 1, Rate: rate})
	}
	for _, at := range outside(0, lastTime) {
		clocks = append(clocks, impl.Clock{Offset: 1, Rate: -5000, At: at}, impl.Clock{At: at}, impl.Clock{Offset: -1, Rate: 5000, At: at})
	}
	return clocks
}

// timesOf returns times at which a clock is told, ascending: the first and
// the last ones, and some between them.
func timesOf(c impl.Clock) []int {
	last := min(c.At+longestSpan, lastTime)
	var times []int
	for _, seconds := range []int{0, 1, 2, 99, 999, 1000, 1001, 4096, 54321, longestSpan - 1, longestSpan} {
		if at := c.At + seconds; at <= last {
			times = append(times, at)
		}
	}
	if times[len(times)-1] != last {
		times = append(times, last)
	}
	return times
}

// wrongTimesOf returns times at which a clock is not told.
func wrongTimesOf(c impl.Clock) []int {
	times := outside(c.At, min(c.At+longestSpan, lastTime))
	times = append(times, lastTime+1, math.MaxInt-longestSpan, math.MinInt+longestSpan)
	if c.At > 0 {
		times = append(times, 0)
	}
	return times
}

// clocksBefore returns clocks that samples may correct, or may not, because
// they come too late or too early.
func clocksBefore(list []impl.Sample) []impl.Clock {
	var clocks []impl.Clock
	for _, at := range []int{0, list[0].At - longestSpan - 1, list[0].At - longestSpan, list[0].At - 1, list[0].At, list[0].At + 1, list[len(list)-1].At} {
		if at < 0 || at > lastTime {
			continue
		}
		clocks = append(clocks, impl.Clock{At: at}, impl.Clock{Offset: 12345, Rate: -678, At: at}, impl.Clock{Offset: -farOffset, Rate: fastRate, At: at})
	}
	return clocks
}
