package tests

import (
	"math"
	"slices"
	"testing"

	"loop.example/satelliteclock/impl"
)

func TestLimitOfPhases(t *testing.T) {
	if impl.MaxPhases != mostPhases {
		t.Error("the limit of chapter 8 is not that of the document")
	}
}

func TestSecondDiffs(t *testing.T) {
	cases := []struct {
		list []int
		step int
		want []int
	}{
		{nil, 1, nil},
		{[]int{5}, 1, nil},
		{[]int{5, 7}, 1, nil},
		{[]int{5, 7, 7}, 1, []int{-2}},
		{[]int{5, 7, 10}, 1, []int{1}},
		{[]int{5, 7, 10}, 2, nil},
		{[]int{0, 1, 3, 6, 10}, 1, []int{1, 1, 1}},
		{[]int{0, 1, 3, 6, 10}, 2, []int{4}},
		{[]int{0, 1, 3, 6, 10}, 3, nil},
		{[]int{0, 1, 3, 6}, 2, nil},
		{[]int{1, 10, 100, 1000, 10000}, 1, []int{81, 810, 8100}},
		{[]int{1, 10, 100, 1000, 10000, 100000}, 2, []int{9801, 98010}},
		{[]int{-farOffset, farOffset, -farOffset}, 1, []int{-4 * farOffset}},
		{[]int{farOffset, -farOffset, farOffset, -farOffset}, 1, []int{4 * farOffset, -4 * farOffset}},
	}
	for _, c := range cases {
		expectDiffs(t, c.list, c.step, c.want)
	}
}

func TestSecondDiffsOfAllSteps(t *testing.T) {
	for _, list := range phaseLists() {
		for step := 1; step <= mostPhases; step++ {
			expectDiffs(t, list, step, plainDiffs(list, step))
		}
	}
}

// Of as many phases as are allowed, step 7 leaves two second differences, and
// of one less it leaves one.
func TestLargestSteps(t *testing.T) {
	list := []int{3, 1, 4, 1, 5, 9, 2, 6, 5, 3, 5, 8, 9, 7, 9, 3}
	expectDiffs(t, list, 7, []int{9 - 12 + 3, 3 - 10 + 1})
	expectDiffs(t, list[:15], 7, []int{9 - 12 + 3})
	expectDiffs(t, list[:14], 7, nil)
	for n := 3; n <= mostPhases; n++ {
		largest := (n - 1) / 2
		if got := len(impl.SecondDiffs(list[:n], largest)); got != n-2*largest {
			t.Errorf("SecondDiffs of %d phases with the step %d are %d", n, largest, got)
		}
		if got := impl.DeviationOf(list[:n], largest); got < 0 {
			t.Errorf("DeviationOf %d phases with the step %d = %d", n, largest, got)
		}
		expectDiffs(t, list[:n], largest+1, nil)
		expectDeviation(t, list[:n], largest+1, -1)
	}
}

func TestFewPhases(t *testing.T) {
	for _, list := range [][]int{nil, {}, {0}, {farOffset}, {-3, 5}, {-farOffset, farOffset}} {
		for step := 1; step <= mostPhases; step++ {
			expectDiffs(t, list, step, nil)
			expectDeviation(t, list, step, -1)
		}
	}
	expectNoSlope(t, nil)
	expectNoSlope(t, []int{})
	expectNoSlope(t, []int{0})
	expectNoSlope(t, []int{7})
	expectNoSlope(t, []int{-farOffset})
}

func TestStepsThatAreNotAllowed(t *testing.T) {
	wrong := append(outside(1, mostPhases), math.MaxInt/2, math.MaxInt/2+1, math.MinInt/2, -1, -2)
	for _, list := range phaseLists() {
		for _, step := range wrong {
			expectDiffs(t, list, step, nil)
			expectDeviation(t, list, step, -1)
		}
	}
}

func TestWrongPhases(t *testing.T) {
	for _, list := range wrongPhaseLists() {
		for step := 1; step <= mostPhases; step++ {
			expectDiffs(t, list, step, nil)
			expectDeviation(t, list, step, -1)
		}
		expectBestStep(t, list, 0)
		expectNoSlope(t, list)
	}
}

func TestP66SecondDifferencesAreDifferencesOfDifferences(t *testing.T) {
	for _, list := range phaseLists() {
		expectDiffs(t, list, 1, differences(differences(list)))
	}
}

func TestP67LinesHaveNoSecondDifferences(t *testing.T) {
	for _, list := range lines() {
		for step := 1; step <= mostPhases; step++ {
			expectDiffs(t, list, step, make([]int, max(0, len(list)-2*step)))
		}
	}
}

func TestP148SecondDifferencesDoNotKnowTheDirection(t *testing.T) {
	for _, list := range phaseLists() {
		backward := slices.Clone(list)
		slices.Reverse(backward)
		for step := 1; step <= mostPhases; step++ {
			want := slices.Clone(impl.SecondDiffs(list, step))
			slices.Reverse(want)
			expectDiffs(t, backward, step, want)
		}
	}
}

func TestDeviationOf(t *testing.T) {
	cases := []struct {
		list []int
		step int
		want int
	}{
		{[]int{0, 0, 0}, 1, 0},
		{[]int{0, 1, 3}, 1, 0},
		{[]int{0, 0, 2}, 1, 2},
		{[]int{0, 0, -2}, 1, 2},
		{[]int{0, 0, 3}, 1, 4},
		{[]int{0, 0, -3}, 1, 4},
		// The squares are 1 and 4, and 5 divided by 4 is rounded down.
		{[]int{0, 0, 1, 0}, 1, 1},
		// The squares are 1, 4 and 1, and 6 divided by 6 is 1.
		{[]int{0, 0, 1, 0, 0}, 1, 1},
		{[]int{0, 1, 3, 6, 10}, 1, 0},
		{[]int{0, 1, 3, 6, 10}, 2, 8},
		{[]int{0, 1, 3, 6, 10}, 3, -1},
		{[]int{-farOffset, farOffset, -farOffset}, 1, 8 * farOffset * farOffset},
		{[]int{farOffset, -farOffset, farOffset, -farOffset, farOffset, -farOffset, farOffset, -farOffset, farOffset, -farOffset, farOffset, -farOffset, farOffset, -farOffset, farOffset, -farOffset}, 1, 8 * farOffset * farOffset},
	}
	for _, c := range cases {
		expectDeviation(t, c.list, c.step, c.want)
	}
}

func TestP68EvenPhasesDoNotDeviate(t *testing.T) {
	for _, list := range lines() {
		for step := 1; 2*step < len(list); step++ {
			expectDeviation(t, list, step, 0)
		}
	}
	for _, list := range phaseLists() {
		for _, by := range []int{1, -1, 77, 1000, -farOffset, farOffset} {
			shifted := slices.Clone(list)
			valid := true
			for n := range shifted {
				shifted[n] += by
				valid = valid && plainDistance(shifted[n], 0) <= farOffset
			}
			for step := 1; valid && step <= mostPhases; step++ {
				expectDeviation(t, shifted, step, impl.DeviationOf(list, step))
			}
		}
	}
}

func TestP69DeviationsAreHalvesOfMeans(t *testing.T) {
	for _, list := range phaseLists() {
		for step := 1; step <= mostPhases; step++ {
			diffs := impl.SecondDiffs(list, step)
			if len(diffs) == 0 {
				expectDeviation(t, list, step, -1)
				continue
			}
			sum := 0
			for _, diff := range diffs {
				sum += diff * diff
			}
			twice := 2 * len(diffs)
			if got := impl.DeviationOf(list, step); got*twice > sum || sum-got*twice >= twice {
				t.Errorf("DeviationOf(%v, %d) = %d, the sum of the squares is %d", list, step, got, sum)
			}
		}
	}
}

func TestBestStep(t *testing.T) {
	cases := []struct {
		list []int
		want int
	}{
		// Equal deviations: the smallest step.
		{[]int{0, 0, 0}, 1},
		{[]int{0, 0, 0, 0, 0, 0, 0, 0, 0, 0, 0, 0, 0, 0, 0, 0}, 1},
		{[]int{0, 1, 3, 6, 10}, 1},
		// The only step is the best one, however much it deviates.
		{[]int{-farOffset, farOffset, -farOffset}, 1},
		{[]int{-farOffset, farOffset, -farOffset, farOffset}, 1},
		// Phases that repeat after 2, 3 or 7 do not deviate at that step.
		{[]int{0, 9, 0, 9, 0}, 2},
		{[]int{0, 9, 0, 9, 0, 9, 0, 9, 0}, 2},
		{[]int{0, 9, 50, 0, 9, 50, 0}, 3},
		{[]int{0, 9, 50, 0, 9, 50, 0, 9, 50, 0, 9, 50, 0}, 3},
		{[]int{0, 100, 300, 50, 777, -20, 5, 0, 100, 300, 50, 777, -20, 5, 0}, 7},
		{[]int{0, 100, 300, 50, 777, -20, 5, 0, 100, 300, 50, 777, -20, 5, 0, 100}, 7},
		// Too short for that: with step 7 there is no second difference.
		{[]int{0, 100, 300, 50, 777, -20, 5, 0, 100, 300, 50, 777, -20, 5}, 6},
		// The deviations are 4 and 4: the longer step has the smaller part.
		{[]int{0, 2, 1, 1, 5}, 2},
		// The deviations are 8 and 32, or 2 and 8: the parts are equal.
		{[]int{0, 4, 4, 0, 0}, 1},
		{[]int{0, 0, 2, 2, 0}, 1},
		// The deviations are 15, 8 and 12, and their parts 15, 2 and 1.
		{[]int{3, 3, 4, 0, 5, 3, 2}, 3},
		// The deviations are 1, 2 and 4: the parts of the longer steps are rounded down to 0.
		{[]int{1, 2, 2, 0, 1, 1, 2}, 2},
	}
	for _, c := range cases {
		expectBestStep(t, c.list, c.want)
	}
}

// Of two steps with the same part, rounded down, the smaller one is the best,
// although the other one deviates less.
func TestRoundedDeviations(t *testing.T) {
	list := []int{1, 4, 0, 2, 0, 3, 3}
	for step, want := range []int{-1, 13, 3, 0, -1} {
		expectDeviation(t, list, step, want)
	}
	expectBestStep(t, list, 2)
}

func TestP70NoStepIsBetter(t *testing.T) {
	for _, list := range phaseLists() {
		want, least := 0, math.MaxInt
		for step := 1; step <= mostPhases; step++ {
			if deviation := impl.DeviationOf(list, step); deviation >= 0 && deviation/(step*step) < least {
				want, least = step, deviation/(step*step)
			}
		}
		expectBestStep(t, list, want)
	}
}

func TestP71FewPhasesHaveNoStep(t *testing.T) {
	for _, a := range []int{-farOffset, -1, 0, 1, farOffset} {
		expectBestStep(t, []int{a}, 0)
		for _, b := range []int{-farOffset, 0, 5, farOffset} {
			expectBestStep(t, []int{a, b}, 0)
			expectBestStep(t, []int{a, b, a}, 1)
		}
	}
	expectBestStep(t, nil, 0)
	expectBestStep(t, []int{}, 0)
}

func TestSlopeOf(t *testing.T) {
	cases := []struct {
		list []int
		want int
	}{
		{[]int{0, 0}, 0},
		{[]int{5, 3}, -2},
		{[]int{3, 5}, 2},
		{[]int{0, 5, -3}, -2},
		{[]int{0, 5, 3}, 1},
		{[]int{0, 9, -1}, -1},
		{[]int{0, 9, 1}, 0},
		{[]int{0, 0, 0, -1}, -1},
		{[]int{0, 0, 0, -3}, -1},
		{[]int{0, 0, 0, -4}, -2},
		{[]int{0, 0, 0, 2}, 0},
		{[]int{-farOffset, farOffset}, 2 * farOffset},
		{[]int{farOffset, -farOffset}, -2 * farOffset},
		{[]int{farOffset, 0, 0, 0, 0, 0, 0, 0, 0, 0, 0, 0, 0, 0, 0, -farOffset}, -133334},
		{[]int{-farOffset, 0, 0, 0, 0, 0, 0, 0, 0, 0, 0, 0, 0, 0, 0, farOffset}, 133333},
	}
	for _, c := range cases {
		expectSlope(t, c.list, c.want)
	}
}

func TestP72SlopesLeadFromTheFirstToTheLast(t *testing.T) {
	for _, list := range phaseLists() {
		if len(list) < 2 {
			expectNoSlope(t, list)
			continue
		}
		steps := len(list) - 1
		got, ok := impl.SlopeOf(list)
		if rest := list[steps] - list[0] - got*steps; !ok || rest < 0 || rest >= steps {
			t.Errorf("SlopeOf(%v) = %d, %v", list, got, ok)
		}
	}
}

func TestP73LinesHaveSlopes(t *testing.T) {
	for _, by := range []int{11, -11, 0, 1, -1, farOffset / 15, -farOffset / 15} {
		for _, first := range []int{0, -7, 5} {
			list := []int{first}
			for len(list) < mostPhases {
				list = append(list, first+by*len(list))
				if last := list[len(list)-1]; last < -farOffset || last > farOffset {
					break
				}
				expectSlope(t, list, by)
			}
		}
	}
}

func TestP149SlopesTurnAround(t *testing.T) {
	for _, list := range phaseLists() {
		if len(list) < 2 {
			continue
		}
		backward := slices.Clone(list)
		slices.Reverse(backward)
		steps := len(list) - 1
		forth, _ := impl.SlopeOf(list)
		want := -forth
		if (list[steps]-list[0])%steps != 0 {
			want--
		}
		expectSlope(t, backward, want)
	}
}

func TestPhasesAreNotChanged(t *testing.T) {
	lists := append(phaseLists(), wrongPhaseLists()...)
	for n, kept := range append(phaseLists(), wrongPhaseLists()...) {
		impl.SecondDiffs(lists[n], 1)
		impl.DeviationOf(lists[n], 2)
		impl.BestStep(lists[n])
		impl.SlopeOf(lists[n])
		if !slices.Equal(lists[n], kept) {
			t.Errorf("%v became %v", kept, lists[n])
		}
	}
}

// A list may have room behind it that belongs to somebody else.
func TestSecondDiffsAreNew(t *testing.T) {
	place := []int{3, 1, 4, 1, 5, 9, 2, 6, 5, 3, 5, 8}
	kept := slices.Clone(place)
	for size := 3; size < len(place); size++ {
		got := impl.SecondDiffs(place[:size], 1)
		for n := range got {
			got[n] = 77
		}
		_ = append(got, 77)
		if !slices.Equal(place, kept) {
			t.Errorf("SecondDiffs share memory with %v", kept)
		}
	}
}

// expectDiffs checks second differences; no differences may be nil or empty.
func expectDiffs(t *testing.T, list []int, step int, want []int) {
	t.Helper()
	if got := impl.SecondDiffs(list, step); !slices.Equal(got, want) {
		t.Errorf("SecondDiffs(%v, %d) = %v, want %v", list, step, got, want)
	}
}

// expectDeviation checks how much phases deviate.
func expectDeviation(t *testing.T, list []int, step int, want int) {
	t.Helper()
	if got := impl.DeviationOf(list, step); got != want {
		t.Errorf("DeviationOf(%v, %d) = %d, want %d", list, step, got, want)
	}
}

// expectBestStep checks which step is the best one.
func expectBestStep(t *testing.T, list []int, want int) {
	t.Helper()
	if got := impl.BestStep(list); got != want {
		t.Errorf("BestStep(%v) = %d, want %d", list, got, want)
	}
}

// expectSlope checks the slope of phases.
func expectSlope(t *testing.T, list []int, want int) {
	t.Helper()
	if got, ok := impl.SlopeOf(list); got != want || !ok {
		t.Errorf("SlopeOf(%v) = %d, %v, want %d", list, got, ok, want)
	}
}

// expectNoSlope checks that phases have no slope.
func expectNoSlope(t *testing.T, list []int) {
	t.Helper()
	if got, ok := impl.SlopeOf(list); got != 0 || ok {
		t.Errorf("SlopeOf(%v) = %d, %v", list, got, ok)
	}
}

// plainDiffs returns second differences as the document says them.
func plainDiffs(list []int, step int) []int {
	var diffs []int
	for n := range list {
		if n+2*step < len(list) {
			diffs = append(diffs, list[n+2*step]-2*list[n+step]+list[n])
		}
	}
	return diffs
}

// differences returns the differences of neighbours.
func differences(list []int) []int {
	var diffs []int
	for n := 1; n < len(list); n++ {
		diffs = append(diffs, list[n]-list[n-1])
	}
	return diffs
}

// lines returns valid phases that grow or fall evenly, of every number.
func lines() [][]int {
	var all [][]int
	for _, by := range []int{0, 1, -1, 11, -500, 66666} {
		for _, first := range []int{0, 9, -13} {
			for size := range mostPhases + 1 {
				var list []int
				for n := range size {
					list = append(list, first+by*n)
				}
				all = append(all, list)
			}
		}
	}
	return all
}

// phaseLists returns valid phases of every number: some that are written out,
// all of five small ones, and thrown ones.
func phaseLists() [][]int {
	lists := [][]int{nil, {}, {0}, {-farOffset}, {farOffset}, {-farOffset, farOffset}, {farOffset, -farOffset}, {farOffset, farOffset, farOffset}, {farOffset, -farOffset, farOffset}}
	for code := range 1024 {
		var list []int
		for n := range 5 {
			list = append(list, code>>(2*n)%4)
		}
		lists = append(lists, list)
	}
	var d dice
	for n := range 40 * (mostPhases + 1) {
		most := []int{1, 3, 50, 1000, farOffset}[n%5]
		var list []int
		for range n / 40 {
			list = append(list, d.throw(2*most+1)-most)
		}
		lists = append(lists, list)
	}
	return lists
}

// wrongPhaseLists returns phases that are not valid, each list for one reason.
func wrongPhaseLists() [][]int {
	full := []int{3, 1, 4, 1, 5, 9, 2, 6, 5, 3, 5, 8, 9, 7, 9, 3}
	lists := [][]int{append(slices.Clone(full), 2), make([]int, mostPhases+1), make([]int, 2*mostPhases), make([]int, 1000)}
	for at := range full {
		for _, wrong := range outside(-farOffset, farOffset) {
			list := slices.Clone(full)
			list[at] = wrong
			lists = append(lists, list)
		}
	}
	for _, wrong := range outside(-farOffset, farOffset) {
		lists = append(lists, []int{wrong}, []int{wrong, 0}, []int{0, wrong}, []int{wrong, 0, 0}, []int{0, wrong, 0}, []int{0, 0, wrong})
	}
	return lists
}
