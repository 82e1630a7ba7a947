package tests

import (
	"math"
	"slices"
	"testing"

	"loop.example/satelliteclock/impl"
)

func TestLimitsOfPulses(t *testing.T) {
	if impl.MaxCounter != lastReading || impl.MaxPulses != mostPulses || impl.PulseSlack != pulseSlack || impl.LabelSlack != labelSlack {
		t.Error("a limit of chapter 14 is not that of the document")
	}
}

func TestValidPulses(t *testing.T) {
	for _, list := range pulseLists() {
		if !impl.ValidPulses(list) {
			t.Errorf("%v is not valid", list)
		}
	}
	for _, list := range wrongPulseLists() {
		if impl.ValidPulses(list) {
			t.Errorf("%v is valid", list)
		}
	}
}

func TestWrongPulses(t *testing.T) {
	for _, list := range wrongPulseLists() {
		if got := impl.CleanPulses(list); got != nil {
			t.Errorf("CleanPulses(%v) = %v", list, got)
		}
		expectNoLabels(t, list, nil)
		expectNoLabels(t, list, []impl.Label{{Count: lastReading, Time: 5}})
		expectNoLabels(t, list, []impl.Label{{}, {Count: 1000000, Time: 1}, {Count: 2000000, Time: 2}})
	}
}

func TestP108PulsesCanBeLeftOut(t *testing.T) {
	for _, list := range pulseLists() {
		for n := range list {
			if fewer := slices.Delete(slices.Clone(list), n, n+1); !impl.ValidPulses(fewer) {
				t.Errorf("%v is valid, %v is not", list, fewer)
			}
		}
	}
}

func TestCleanPulses(t *testing.T) {
	cases := []struct {
		list []int
		want []int
	}{
		{nil, nil},
		{[]int{}, nil},
		{[]int{0}, []int{0}},
		{[]int{lastReading}, []int{lastReading}},
		{[]int{123456, 1123456}, []int{123456, 1123456}},
		{[]int{0, lastReading}, []int{0, lastReading}},
		// Pulses are missing.
		{[]int{7, 3000007, 4000007, 9000007}, []int{7, 3000007, 4000007, 9000007}},
		{[]int{0, 97998000}, []int{0, 97998000}},
		// Pulses come in between.
		{[]int{0, 300000, 1000000, 1400000, 1999000, 2000000}, []int{0, 1000000, 1999000}},
		{[]int{0, 999000, 1000000, 1001000}, []int{0, 999000}},
		// What is not taken does not count, though a second later there is a pulse.
		{[]int{0, 500000, 1500000, 2500000, 3000000}, []int{0, 3000000}},
		{[]int{500000, 1000000, 2000000, 3000000}, []int{500000}},
		// Each pulse may be early or late, measured from the one before it.
		{[]int{0, 1002000, 2004000, 3006000, 4008000}, []int{0, 1002000, 2004000, 3006000, 4008000}},
		{[]int{9000, 1007000, 2005000, 3003000}, []int{9000, 1007000, 2005000, 3003000}},
		{[]int{0, 1002001, 2002000, 3000000, 3999999}, []int{0, 2002000, 3000000, 3999999}},
		// Late from the first pulse, but in time from the one that was taken last.
		{[]int{0, 1001500, 2003000}, []int{0, 1001500, 2003000}},
		{[]int{0, 2003000}, []int{0}},
		// In time from the first pulse, but too early from the one that was taken last.
		{[]int{0, 1001500, 1999000}, []int{0, 1001500}},
	}
	for _, c := range cases {
		expectClean(t, c.list, c.want)
	}
}

// A difference of some seconds, PulseSlack more and less, and one microsecond
// beyond both.
func TestSlackOfPulses(t *testing.T) {
	for _, first := range []int{0, 1, 999999, 1000000, 31415926} {
		for _, seconds := range []int{1, 2, 3, 10, 50, 68, 69, 98, 99, 100} {
			for _, slack := range []int{0, 1, 1999, 2000} {
				expectPair(t, first, first+seconds*1000000+slack, true)
				expectPair(t, first, first+seconds*1000000-slack, true)
			}
			for _, far := range []int{2001, 2002, 3000, 4000, 4001, 500000, 996000, 997999} {
				expectPair(t, first, first+seconds*1000000+far, false)
				expectPair(t, first, first+seconds*1000000-far, false)
			}
		}
	}
}

// A pulse that is nearly at the last one is no second behind it.
func TestPulsesAtOnce(t *testing.T) {
	for _, first := range []int{0, 1, 2000, 1000000, lastReading - 4001} {
		for _, micros := range []int{1, 2, 1000, 1999, 2000, 2001, 4000, 4001} {
			expectPair(t, first, first+micros, false)
		}
	}
}

func TestAllCleanPulses(t *testing.T) {
	for _, list := range pulseLists() {
		expectClean(t, list, plainClean(list))
	}
}

func TestP109CleanPulsesAreSecondsApart(t *testing.T) {
	for _, list := range pulseLists() {
		clean := impl.CleanPulses(list)
		if len(list) == 0 {
			if len(clean) != 0 {
				t.Errorf("CleanPulses(%v) = %v", list, clean)
			}
			continue
		}
		if len(clean) == 0 || clean[0] != list[0] {
			t.Errorf("CleanPulses(%v) = %v does not begin with the first pulse", list, clean)
		}
		for i := 1; i < len(clean); i++ {
			micros := clean[i] - clean[i-1]
			seconds := (micros + secondLong/2) / secondLong
			if seconds < 1 || plainDistance(micros, seconds*secondLong) > 2000 {
				t.Errorf("CleanPulses(%v) = %v has pulses that are %d apart", list, clean, micros)
			}
			if !slices.Contains(list, clean[i]) {
				t.Errorf("CleanPulses(%v) = %v has another pulse", list, clean)
			}
		}
	}
}

func TestP110CleanIsClean(t *testing.T) {
	for _, list := range pulseLists() {
		clean := impl.CleanPulses(list)
		expectClean(t, clean, clean)
	}
}

func TestP111PulsesAreCleanByTheirDistances(t *testing.T) {
	for _, list := range pulseLists() {
		for _, later := range []int{1, 7, 2000, 1000000} {
			if len(list) > 0 && list[len(list)-1] > lastReading-later {
				continue
			}
			expectClean(t, laterBy(list, later), laterBy(impl.CleanPulses(list), later))
		}
	}
}

func TestLabelPulses(t *testing.T) {
	pulses := []int{1000, 1001000, 2001500, 9001000}
	cases := []struct {
		labels []impl.Label
		want   []impl.Label
	}{
		{nil, nil},
		{[]impl.Label{}, nil},
		// At the pulse, as late as may be, and later.
		{labelsOf(1000, 50), labelsOf(1000, 50)},
		{labelsOf(1001, 50), labelsOf(1000, 50)},
		{labelsOf(701000, 50), labelsOf(1000, 50)},
		{labelsOf(701001, 50), nil},
		{labelsOf(1000999, 50), nil},
		{labelsOf(1701000, 50, 1701001, 51), labelsOf(1001000, 50)},
		{labelsOf(2001499, 50, 2001500, 51), labelsOf(2001500, 51)},
		// Before the first pulse.
		{labelsOf(0, 50), nil},
		{labelsOf(999, 50), nil},
		{labelsOf(0, 50, 999, 51, 1000, 52), labelsOf(1000, 52)},
		// Pulses are missing.
		{labelsOf(3001000, 50, 4001000, 51, 9001000, 52), labelsOf(9001000, 52)},
		{labelsOf(2701500, 50, 2701501, 51, 9000999, 52), labelsOf(2001500, 50)},
		// Behind the last pulse.
		{labelsOf(9701000, 50, 9701001, 51, lastReading, 52), labelsOf(9001000, 50)},
		// Two labels of one pulse, and a pulse without a label.
		{labelsOf(1000, 50, 1001, 51), labelsOf(1000, 50, 1000, 51)},
		{labelsOf(1500, 50, 300000, 51, 701000, 52, 2001500, 53), labelsOf(1000, 50, 1000, 51, 1000, 52, 2001500, 53)},
		// Times may be anything.
		{labelsOf(1000, 0, 1001000, lastTime), labelsOf(1000, 0, 1001000, lastTime)},
		{labelsOf(1000, lastTime, 1001000, 0), labelsOf(1000, lastTime, 1001000, 0)},
		{labelsOf(1000, 50, 1001000, 50, 2001500, 49), labelsOf(1000, 50, 1001000, 50, 2001500, 49)},
	}
	for _, c := range cases {
		expectLabels(t, pulses, c.labels, c.want)
	}
}

// The first and the last reading, for pulses and for labels.
func TestLabelsAtTheEnds(t *testing.T) {
	expectLabels(t, []int{0}, labelsOf(0, 5), labelsOf(0, 5))
	expectLabels(t, []int{0}, labelsOf(700000, 5), labelsOf(0, 5))
	expectLabels(t, []int{0}, labelsOf(700001, 5), nil)
	expectLabels(t, []int{1}, labelsOf(0, 5), nil)
	expectLabels(t, []int{lastReading}, labelsOf(lastReading, 5), labelsOf(lastReading, 5))
	expectLabels(t, []int{lastReading}, labelsOf(lastReading-1, 5), nil)
	expectLabels(t, []int{lastReading - 700000}, labelsOf(lastReading, 5), labelsOf(lastReading-700000, 5))
	expectLabels(t, []int{lastReading - 700001}, labelsOf(lastReading, 5), nil)
	expectLabels(t, []int{0, lastReading}, labelsOf(0, lastTime, lastReading, 0), labelsOf(0, lastTime, lastReading, 0))
	// Pulses that are not clean have labels too.
	expectLabels(t, []int{0, 1, 2}, labelsOf(1, 5, 2, 6, 3, 7), labelsOf(1, 5, 2, 6, 2, 7))
}

func TestAllLabels(t *testing.T) {
	for _, pulses := range pulseLists() {
		for _, labels := range labelListsFor(pulses) {
			expectLabels(t, pulses, labels, plainLabels(pulses, labels))
		}
	}
}

func TestMostLabels(t *testing.T) {
	var pulses []int
	var labels, want []impl.Label
	for n := range mostPulses {
		pulses = append(pulses, n*secondLong)
		labels = append(labels, impl.Label{Count: n*secondLong + 1000*n, Time: 60 + n})
		want = append(want, impl.Label{Count: n * secondLong, Time: 60 + n})
	}
	expectLabels(t, pulses, labels, want)
	expectLabels(t, pulses[:1], labels, want[:1])
	expectNoLabels(t, pulses, append(slices.Clone(labels), impl.Label{Count: mostPulses * secondLong, Time: 60 + mostPulses}))
	expectNoLabels(t, nil, append(slices.Clone(labels), impl.Label{Count: mostPulses * secondLong, Time: 60 + mostPulses}))
}

func TestWrongLabels(t *testing.T) {
	for _, labels := range wrongLabelLists() {
		for _, pulses := range [][]int{nil, {}, {0}, {0, 1000000, 2000000, 3000000}, {lastReading}} {
			expectNoLabels(t, pulses, labels)
		}
		expectNoGain(t, labels)
	}
}

func TestP112LabelsBelongToPulses(t *testing.T) {
	for _, pulses := range pulseLists() {
		for _, labels := range labelListsFor(pulses) {
			got := impl.LabelPulses(pulses, labels)
			rest := labels
			for _, l := range got {
				if !slices.Contains(pulses, l.Count) {
					t.Errorf("LabelPulses(%v, %v) = %v has a count of no pulse", pulses, labels, got)
				}
				at := slices.IndexFunc(rest, func(old impl.Label) bool { return old.Time == l.Time })
				if at < 0 {
					t.Errorf("LabelPulses(%v, %v) = %v has other times", pulses, labels, got)
					break
				}
				rest = rest[at+1:]
			}
		}
	}
}

func TestP113LabelsBelongToTheLastPulse(t *testing.T) {
	for _, pulses := range pulseLists() {
		for _, labels := range labelListsFor(pulses) {
			for _, l := range impl.LabelPulses(pulses, labels) {
				// The times of these labels are all different.
				at := slices.IndexFunc(labels, func(old impl.Label) bool { return old.Time == l.Time })
				if at < 0 || l.Count > labels[at].Count {
					t.Errorf("LabelPulses(%v, %v) has %v", pulses, labels, l)
					continue
				}
				for _, pulse := range pulses {
					if pulse > l.Count && pulse <= labels[at].Count {
						t.Errorf("LabelPulses(%v, %v) has %v, but %d is between", pulses, labels, l, pulse)
					}
				}
			}
		}
	}
}

func TestP168WithoutPulsesThereAreNoLabels(t *testing.T) {
	for _, pulses := range pulseLists() {
		expectLabels(t, pulses, nil, nil)
		expectLabels(t, pulses, []impl.Label{}, nil)
		for _, labels := range labelListsFor(pulses) {
			expectLabels(t, nil, labels, nil)
			expectLabels(t, []int{}, labels, nil)
		}
	}
}

func TestGainOf(t *testing.T) {
	cases := []struct {
		list []impl.Label
		want int
	}{
		// A counter that is right, one that gains, and one that loses.
		{labelsOf(0, 0, 1000000, 1), 0},
		{labelsOf(0, 0, 1000001, 1), 1},
		{labelsOf(0, 0, 999999, 1), -1},
		{labelsOf(500, 70, 3000510, 73), 10},
		{labelsOf(500, 70, 3000490, 73), -10},
		{labelsOf(0, 0, lastReading, 100), 0},
		{labelsOf(0, 0, lastReading, 1), lastReading - 1000000},
		{labelsOf(0, 0, 1, 1), -999999},
		{labelsOf(0, 0, 1, lastTime), 1 - lastTime*1000000},
		{labelsOf(0, 0, lastReading, lastTime), lastReading - lastTime*1000000},
		{labelsOf(lastReading-1, lastTime-1, lastReading, lastTime), -999999},
		// Only the first and the last label count.
		{labelsOf(0, 0, 5000000, 1, 6000000, 7, 8000003, 8), 3},
		{labelsOf(10, 5, 1000010, 6, 2000011, 7), 1},
	}
	for _, c := range cases {
		expectGain(t, c.list, c.want)
	}
}

func TestAllGains(t *testing.T) {
	for _, list := range gainLists() {
		first, last := list[0], list[len(list)-1]
		expectGain(t, list, last.Count-first.Count-(last.Time-first.Time)*1000000)
	}
}

func TestFewLabelsHaveNoGain(t *testing.T) {
	expectNoGain(t, nil)
	expectNoGain(t, []impl.Label{})
	for _, list := range gainLists() {
		expectNoGain(t, list[:0])
		for _, l := range list {
			expectNoGain(t, []impl.Label{l})
		}
	}
}

// Times that are equal, or fall, at every place.
func TestGainsNeedAscendingTimes(t *testing.T) {
	for _, list := range gainLists() {
		for n := 1; n < len(list); n++ {
			for _, at := range []int{list[n-1].Time, list[n-1].Time - 1, 0} {
				if at < 0 {
					continue
				}
				wrong := slices.Clone(list)
				wrong[n].Time = at
				expectNoGain(t, wrong)
			}
		}
	}
}

// Two labels of one pulse are no valid labels any more.
func TestNoGainOfOnePulse(t *testing.T) {
	list := impl.LabelPulses([]int{0, 1000000}, labelsOf(10, 5, 20, 6, 1000000, 7))
	if len(list) != 3 {
		t.Errorf("LabelPulses = %v", list)
	}
	expectNoGain(t, list)
}

func TestMostLabelsOfAGain(t *testing.T) {
	var list []impl.Label
	for n := range mostPulses + 1 {
		list = append(list, impl.Label{Count: 1000002 * n, Time: 60 + n})
	}
	expectGain(t, list[:mostPulses], 2*(mostPulses-1))
	expectGain(t, list[1:], 2*(mostPulses-1))
	expectNoGain(t, list)
}

func TestP114GainsAddUp(t *testing.T) {
	for _, list := range gainLists() {
		all, ok := impl.GainOf(list)
		if !ok {
			t.Errorf("GainOf(%v) fails", list)
		}
		for n := 1; n < len(list)-1; n++ {
			before, ok1 := impl.GainOf(list[:n+1])
			behind, ok2 := impl.GainOf(list[n:])
			if !ok1 || !ok2 || before+behind != all {
				t.Errorf("GainOf(%v) = %d, but up to %d it is %d, and from it on %d", list, all, n, before, behind)
			}
		}
	}
}

func TestP115ExactCountersGainNothing(t *testing.T) {
	for _, steps := range [][]int{{1}, {100}, {1, 1}, {2, 3, 5}, {33, 33, 33}, slices.Repeat([]int{1}, mostPulses-1), slices.Repeat([]int{6}, mostPulses-1)} {
		for _, first := range []impl.Label{{}, {Time: 1234567890}, {Time: lastTime - 100}, {Count: 7, Time: 5}, {Count: 999999, Time: 5}} {
			list := []impl.Label{first}
			l := first
			for _, step := range steps {
				l = impl.Label{Count: l.Count + step*1000000, Time: l.Time + step}
				list = append(list, l)
			}
			if l.Count <= lastReading {
				expectGain(t, list, 0)
			}
		}
	}
}

func TestP158GainsDoNotDependOnWhenCountingBegan(t *testing.T) {
	for _, list := range gainLists() {
		want, ok := impl.GainOf(list)
		if !ok {
			t.Errorf("GainOf(%v) fails", list)
		}
		for _, more := range []int{1, 6, 1000000} {
			if list[len(list)-1].Count > lastReading-more {
				continue
			}
			greater := slices.Clone(list)
			for n := range greater {
				greater[n].Count += more
			}
			expectGain(t, greater, want)
		}
	}
}

func TestPulsesAndLabelsAreNotChanged(t *testing.T) {
	for _, pulses := range append(pulseLists(), wrongPulseLists()...) {
		kept := slices.Clone(pulses)
		impl.ValidPulses(pulses)
		impl.CleanPulses(pulses)
		for _, labels := range append(labelListsFor(pulses), labelsOf(5, 5, 5, 5)) {
			keptLabels := slices.Clone(labels)
			impl.LabelPulses(pulses, labels)
			impl.GainOf(labels)
			if !slices.Equal(labels, keptLabels) {
				t.Errorf("%v became %v", keptLabels, labels)
			}
		}
		if !slices.Equal(pulses, kept) {
			t.Errorf("%v became %v", kept, pulses)
		}
	}
}

// A list may have room behind it that belongs to somebody else.
func TestResultsOfPulsesAreNew(t *testing.T) {
	for size := range mostPulses + 1 {
		pulses := make([]int, 0, 2*mostPulses)
		labels := make([]impl.Label, 0, 2*mostPulses)
		for n := range size + 1 {
			pulses = append(pulses, n*secondLong)
			labels = append(labels, impl.Label{Count: n * secondLong, Time: n})
		}
		kept, keptLabels := slices.Clone(pulses), slices.Clone(labels)
		clean := impl.CleanPulses(pulses[:size])
		times := impl.LabelPulses(pulses[:size], labels[:size])
		if len(clean) != size || len(times) != size {
			t.Errorf("of %d pulses %d are clean, and %d have labels", size, len(clean), len(times))
		}
		for n := range clean {
			clean[n] = -1
		}
		for n := range times {
			times[n] = impl.Label{Count: -1}
		}
		_ = append(clean, -1)
		_ = append(times, impl.Label{Count: -1})
		if !slices.Equal(pulses, kept) || !slices.Equal(labels, keptLabels) {
			t.Errorf("a result shares memory with %v or %v", kept, keptLabels)
		}
	}
}

// expectClean checks the pulses that are taken.
func expectClean(t *testing.T, list []int, want []int) {
	t.Helper()
	if got := impl.CleanPulses(list); !slices.Equal(got, want) {
		t.Errorf("CleanPulses(%v) = %v, want %v", list, got, want)
	}
}

// expectPair checks whether the second one of two pulses is taken, if both are
// readings.
func expectPair(t *testing.T, first int, second int, taken bool) {
	t.Helper()
	if second <= first || second > lastReading {
		return
	}
	want := []int{first}
	if taken {
		want = append(want, second)
	}
	expectClean(t, []int{first, second}, want)
}

// expectLabels checks the times of pulses.
func expectLabels(t *testing.T, pulses []int, labels []impl.Label, want []impl.Label) {
	t.Helper()
	if got := impl.LabelPulses(pulses, labels); !slices.Equal(got, want) {
		t.Errorf("LabelPulses(%v, %v) = %v, want %v", pulses, labels, got, want)
	}
}

// expectNoLabels checks that pulses have no times.
func expectNoLabels(t *testing.T, pulses []int, labels []impl.Label) {
	t.Helper()
	if got := impl.LabelPulses(pulses, labels); got != nil {
		t.Errorf("LabelPulses(%v, %v) = %v", pulses, labels, got)
	}
}

// expectGain checks by how much a counter has gained.
func expectGain(t *testing.T, list []impl.Label, want int) {
	t.Helper()
	if got, ok := impl.GainOf(list); got != want || !ok {
		t.Errorf("GainOf(%v) = %d, %v, want %d", list, got, ok, want)
	}
}

// expectNoGain checks that labels tell no gain.
func expectNoGain(t *testing.T, list []impl.Label) {
	t.Helper()
	if got, ok := impl.GainOf(list); got != 0 || ok {
		t.Errorf("GainOf(%v) = %d, %v", list, got, ok)
	}
}

// plainClean returns the pulses that are taken, as the document says it: each
// number of seconds is tried.
func plainClean(list []int) []int {
	var taken []int
	for _, pulse := range list {
		if len(taken) == 0 {
			taken = append(taken, pulse)
			continue
		}
		micros := pulse - taken[len(taken)-1]
		for seconds := 1; seconds <= 101; seconds++ {
			if micros >= seconds*1000000-2000 && micros <= seconds*1000000+2000 {
				taken = append(taken, pulse)
			}
		}
	}
	return taken
}

// plainLabels returns the times of pulses, as the document says it: for each
// label all pulses are looked at.
func plainLabels(pulses []int, labels []impl.Label) []impl.Label {
	var times []impl.Label
	for _, l := range labels {
		last := -1
		for _, pulse := range pulses {
			if pulse <= l.Count {
				last = pulse
			}
		}
		if last >= 0 && l.Count-last <= 700000 {
			times = append(times, impl.Label{Count: last, Time: l.Time})
		}
	}
	return times
}

// laterBy returns pulses that are all later.
func laterBy(list []int, micros int) []int {
	var later []int
	for _, pulse := range list {
		later = append(later, pulse+micros)
	}
	return later
}

// labelsOf returns labels by their counts and times.
func labelsOf(numbers ...int) []impl.Label {
	var list []impl.Label
	for n := 0; n+1 < len(numbers); n += 2 {
		list = append(list, impl.Label{Count: numbers[n], Time: numbers[n+1]})
	}
	return list
}

// ascending returns the first ones of readings that are in the limits, in
// order and without those that are there twice.
func ascending(readings []int) []int {
	list := slices.DeleteFunc(slices.Clone(readings), func(reading int) bool {
		return reading < 0 || reading > lastReading
	})
	slices.Sort(list)
	list = slices.Compact(list)
	return list[:min(len(list), mostPulses)]
}

// pulseLists returns valid pulses of every number: a second apart, with some
// missing, with others in between, and a little early and late.
func pulseLists() [][]int {
	lists := [][]int{nil, {}, {0}, {1}, {lastReading}, {0, lastReading}, {0, 1}, {lastReading - 1, lastReading}, {0, 1000000}, {5, 6, 7, 8, 9}}
	var first, last, far []int
	for n := range mostPulses {
		first = append(first, n)
		last = append(last, lastReading-mostPulses+1+n)
		far = append(far, n*6*secondLong)
	}
	lists = append(lists, first, last, far)
	var d dice
	for n := range 500 {
		var list []int
		at := d.throw([]int{1, 3000, secondLong, 90 * secondLong}[n%4])
		for range 1 + d.throw(mostPulses) {
			// Mostly within the slack, or just beyond it.
			list = append(list, at+d.throw([]int{1, 2, 2003, 4200}[n/4%4]))
			if d.throw(5) == 0 {
				list = append(list, at+d.throw(secondLong))
			}
			at += secondLong * (1 + d.throw([]int{1, 2, 7}[n/16%3]))
		}
		lists = append(lists, ascending(list))
	}
	return lists
}

// wrongPulseLists returns pulses that are not valid, each list for one reason.
func wrongPulseLists() [][]int {
	var full []int
	for n := range mostPulses {
		full = append(full, secondLong*(n+1))
	}
	lists := [][]int{append(slices.Clone(full), secondLong*(mostPulses+1))}
	for n := range full {
		wrong := outside(0, lastReading)
		if n > 0 {
			wrong = append(wrong, full[n-1], full[n-1]-1, 0)
		}
		if n < mostPulses-1 {
			wrong = append(wrong, full[n+1], full[n+1]+1, lastReading)
		}
		for _, reading := range wrong {
			list := slices.Clone(full)
			list[n] = reading
			lists = append(lists, list)
		}
	}
	for _, reading := range outside(0, lastReading) {
		lists = append(lists, []int{reading})
	}
	backward := slices.Clone(full)
	slices.Reverse(backward)
	many := make([]int, 0, 100)
	for n := range 100 {
		many = append(many, n)
	}
	return append(lists, backward, many, []int{5, 5}, []int{0, 0}, []int{lastReading, lastReading}, []int{6, 5}, []int{-1, 0}, []int{lastReading, lastReading + 1}, []int{math.MinInt, math.MaxInt})
}

// labelListsFor returns valid labels, all with different times, that come
// before, at and behind pulses: a few and many.
func labelListsFor(pulses []int) [][]impl.Label {
	near := []int{0, lastReading}
	for _, pulse := range pulses {
		for _, late := range []int{-1, 0, 1, 350000, labelSlack - 1, labelSlack, labelSlack + 1} {
			near = append(near, pulse+late)
		}
	}
	var lists [][]impl.Label
	d := dice(len(pulses))
	for n := range 6 {
		var counts []int
		for range 1 + d.throw(mostPulses+5) {
			counts = append(counts, near[d.throw(len(near))])
		}
		var labels []impl.Label
		for i, count := range ascending(counts) {
			// Times that rise, and ones that do not.
			time := []int{1000 + i, lastTime - i, 50 + 7*i%mostPulses}[n%3]
			labels = append(labels, impl.Label{Count: count, Time: time})
		}
		lists = append(lists, labels)
	}
	return lists
}

// wrongLabelLists returns labels that are not valid, each list for one reason.
func wrongLabelLists() [][]impl.Label {
	var full []impl.Label
	for n := range mostPulses {
		full = append(full, impl.Label{Count: secondLong * (n + 1), Time: 100 * (n + 1)})
	}
	lists := [][]impl.Label{append(slices.Clone(full), impl.Label{Count: secondLong * (mostPulses + 1), Time: 100 * (mostPulses + 1)})}
	for n, right := range full {
		var wrong []impl.Label
		counts := outside(0, lastReading)
		if n > 0 {
			counts = append(counts, full[n-1].Count, full[n-1].Count-1, 0)
		}
		if n < mostPulses-1 {
			counts = append(counts, full[n+1].Count, full[n+1].Count+1, lastReading)
		}
		for _, count := range counts {
			wrong = append(wrong, impl.Label{Count: count, Time: right.Time})
		}
		for _, time := range outside(0, lastTime) {
			wrong = append(wrong, impl.Label{Count: right.Count, Time: time})
		}
		for _, l := range wrong {
			list := slices.Clone(full)
			list[n] = l
			lists = append(lists, list)
		}
	}
	for _, count := range outside(0, lastReading) {
		lists = append(lists, labelsOf(count, 5))
	}
	for _, time := range outside(0, lastTime) {
		lists = append(lists, labelsOf(5, time), labelsOf(5, 5, 6, time), labelsOf(5, time, 6, 7))
	}
	return append(lists, labelsOf(5, 5, 5, 6), labelsOf(6, 5, 5, 6), labelsOf(-1, 5, 0, 6), labelsOf(lastReading, 5, lastReading+1, 6), labelsOf(0, 0, 0, 0))
}

// gainLists returns valid labels whose times ascend: two, some, and as many as
// there may be, of counters that gain, lose and do neither.
func gainLists() [][]impl.Label {
	lists := [][]impl.Label{
		labelsOf(0, 0, 1, 1),
		labelsOf(0, 0, lastReading, lastTime),
		labelsOf(0, lastTime-1, lastReading, lastTime),
		labelsOf(lastReading-1, 0, lastReading, lastTime),
	}
	var d dice
	for n := range 400 {
		l := impl.Label{Count: d.throw(secondLong), Time: []int{0, 1000, lastTime - 200}[n%3]}
		list := []impl.Label{l}
		for range 1 + n%(mostPulses-1) {
			seconds := 1 + d.throw(5)
			l.Count += seconds*1000000 + []int{0, 1, -1, d.throw(4001) - 2000}[n/16%4]
			l.Time += seconds
			list = append(list, l)
		}
		lists = append(lists, list)
	}
	return lists
}
