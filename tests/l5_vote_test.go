package tests

import (
	"math"
	"slices"
	"testing"

	"loop.example/satelliteclock/impl"
)

func TestLimitsOfVotes(t *testing.T) {
	if impl.MaxOffset != farOffset || impl.MaxSources != mostSources {
		t.Error("a limit of chapter 5 is not that of the document")
	}
}

func TestValidSpans(t *testing.T) {
	for _, list := range spanLists() {
		if !impl.ValidSpans(list) {
			t.Errorf("%v is not valid", list)
		}
	}
	for _, list := range wrongSpanLists() {
		if impl.ValidSpans(list) {
			t.Errorf("%v is valid", list)
		}
	}
}

func TestWrongSpans(t *testing.T) {
	for _, list := range wrongSpanLists() {
		for _, n := range []int{0, 1, -1, 5, farOffset, -farOffset, farOffset + 1, math.MaxInt, math.MinInt} {
			if got := impl.VotesFor(list, n); got != -1 {
				t.Errorf("VotesFor(%v, %d) = %d", list, n, got)
			}
		}
		if got := impl.MostVotes(list); got != -1 {
			t.Errorf("MostVotes(%v) = %d", list, got)
		}
		expectNoAgreement(t, list)
	}
}

func TestP36SourcesCanBeLeftOut(t *testing.T) {
	for _, list := range spanLists() {
		for n := 1; n < len(list); n++ {
			if !impl.ValidSpans(list[:n]) {
				t.Errorf("%v is valid, %v is not", list, list[:n])
			}
		}
	}
}

func TestP37SourcesVoteForAllNumbersOfTheirSpans(t *testing.T) {
	for _, list := range spanLists() {
		for _, n := range append(numbersNear(list), math.MinInt, math.MinInt+1, math.MaxInt-1, math.MaxInt) {
			got := impl.VotesFor(list, n)
			if want := plainVotes(list, n); got != want || got > len(list) {
				t.Errorf("VotesFor(%v, %d) = %d, want %d", list, n, got, want)
			}
			for k := 1; k < len(list); k++ {
				if a, b := impl.VotesFor(list[:k], n), impl.VotesFor(list[k:], n); a+b != got {
					t.Errorf("VotesFor(%v, %d) = %d, but %d of the first %d and %d of the others", list, n, got, a, k, b)
				}
			}
		}
	}
}

func TestP38EndsAreInSpans(t *testing.T) {
	for _, list := range spanLists() {
		most := impl.MostVotes(list)
		for _, s := range list {
			low, high := impl.VotesFor(list, s.Low), impl.VotesFor(list, s.High)
			if low < 1 || high < 1 || most < low || most < high {
				t.Errorf("%v: %d and %d votes for the ends of %v, %d at most", list, low, high, s, most)
			}
		}
	}
}

func TestP39SomebodyHasTheMostVotes(t *testing.T) {
	for _, list := range spanLists() {
		most := impl.MostVotes(list)
		found := false
		for _, s := range list {
			found = found || impl.VotesFor(list, s.Low) == most
		}
		if !found {
			t.Errorf("MostVotes(%v) = %d, but Low of no span has them", list, most)
		}
		for _, n := range numbersNear(list) {
			if got := impl.VotesFor(list, n); got > most {
				t.Errorf("MostVotes(%v) = %d, but %d has %d", list, most, n, got)
			}
		}
	}
}

func TestP143EverybodyVotesForSomething(t *testing.T) {
	for _, list := range spanLists() {
		sum := 0
		for _, s := range list {
			sum += impl.VotesFor(list, s.Low)
		}
		if sum < len(list) {
			t.Errorf("%v: %d votes for Low of the spans", list, sum)
		}
	}
}

func TestP144MoreSourcesHaveMoreVotes(t *testing.T) {
	added := append(spansOf(0, 0, 1, 3, 5, 9, -farOffset, farOffset, farOffset, farOffset), spansOf(-farOffset, -farOffset)...)
	for _, list := range spanLists() {
		if len(list) == mostSources {
			continue
		}
		most := impl.MostVotes(list)
		for _, s := range append(added, list...) {
			for at := 0; at <= len(list); at++ {
				more := slices.Insert(slices.Clone(list), at, s)
				if got := impl.MostVotes(more); got != most && got != most+1 {
					t.Fatalf("MostVotes(%v) = %d, without one %d", more, got, most)
				}
			}
		}
		all := append(slices.Clone(list), impl.Span{Low: -farOffset, High: farOffset})
		if got := impl.MostVotes(all); got != most+1 {
			t.Errorf("MostVotes(%v) = %d, want %d", all, got, most+1)
		}
	}
}

func TestAgreedSpan(t *testing.T) {
	cases := []struct {
		list   []impl.Span
		agreed impl.Span
		most   int
		middle int
	}{
		{spansOf(0, 0), impl.Span{Low: 0, High: 0}, 1, 0},
		{spansOf(-farOffset, farOffset), impl.Span{Low: -farOffset, High: farOffset}, 1, 0},
		{spansOf(-farOffset, farOffset-1), impl.Span{Low: -farOffset, High: farOffset - 1}, 1, -1},
		{spansOf(-farOffset+1, farOffset), impl.Span{Low: -farOffset + 1, High: farOffset}, 1, 0},
		{spansOf(farOffset, farOffset, 0, farOffset), impl.Span{Low: farOffset, High: farOffset}, 2, farOffset},
		{spansOf(-farOffset, -farOffset, -farOffset, 0), impl.Span{Low: -farOffset, High: -farOffset}, 2, -farOffset},
		{spansOf(-6, -3), impl.Span{Low: -6, High: -3}, 1, -5},
		{spansOf(-4, -4, -7, -1), impl.Span{Low: -4, High: -4}, 2, -4},
		// Spans that touch in one number.
		{spansOf(0, 5, 5, 9), impl.Span{Low: 5, High: 5}, 2, 5},
		{spansOf(5, 9, 0, 5), impl.Span{Low: 5, High: 5}, 2, 5},
		{spansOf(0, 5, 5, 9, 5, 5), impl.Span{Low: 5, High: 5}, 3, 5},
		// Spans in each other, and equal ones.
		{spansOf(0, 10, 2, 9, 4, 7), impl.Span{Low: 4, High: 7}, 3, 5},
		{spansOf(3, 8, 3, 8, 3, 8), impl.Span{Low: 3, High: 8}, 3, 5},
		{spansOf(3, 8, 3, 6), impl.Span{Low: 3, High: 6}, 2, 4},
		{spansOf(3, 8, 5, 8), impl.Span{Low: 5, High: 8}, 2, 6},
		// The first one of two that are equally good.
		{spansOf(9, 10, 0, 1, 0, 10), impl.Span{Low: 0, High: 1}, 2, 0},
		// All numbers have two votes, but not of the same sources.
		{spansOf(0, 10, 0, 4, 5, 10), impl.Span{Low: 0, High: 4}, 2, 2},
		{spansOf(5, 10, 0, 10, 0, 4), impl.Span{Low: 0, High: 4}, 2, 2},
		// One more than half.
		{spansOf(0, 3, 2, 5, 9, 9), impl.Span{Low: 2, High: 3}, 2, 2},
		{spansOf(0, 9, 1, 8, 2, 7, 3, 6, 20, 21, 22, 23, 24, 25), impl.Span{Low: 3, High: 6}, 4, 4},
	}
	for _, c := range cases {
		if got, ok := impl.AgreedSpan(c.list); got != c.agreed || !ok {
			t.Errorf("AgreedSpan(%v) = %v, %v, want %v", c.list, got, ok, c.agreed)
		}
		if got := impl.MostVotes(c.list); got != c.most {
			t.Errorf("MostVotes(%v) = %d, want %d", c.list, got, c.most)
		}
		if got, ok := impl.MiddleOf(c.list); got != c.middle || !ok {
			t.Errorf("MiddleOf(%v) = %d, %v, want %d", c.list, got, ok, c.middle)
		}
	}
}

func TestSpansWithoutAgreement(t *testing.T) {
	for _, list := range [][]impl.Span{
		spansOf(0, 5, 6, 9),
		spansOf(6, 9, 0, 5),
		spansOf(0, 0, 1, 1),
		spansOf(0, 1, 2, 3, 4, 5),
		spansOf(0, 3, 2, 5, 8, 9, 11, 12),
		spansOf(0, 3, 2, 5, 6, 9, 8, 11),
		spansOf(-farOffset, -farOffset, farOffset, farOffset),
		spansOf(0, 9, 1, 8, 2, 7, 20, 21, 22, 23, 24, 25),
		spansOf(0, 9, 1, 8, 2, 7, 20, 21, 22, 23, 24, 25, 26, 27),
	} {
		if got, want := impl.MostVotes(list), len(list)/2; got != max(want, 1) {
			t.Errorf("MostVotes(%v) = %d, want %d", list, got, want)
		}
		expectNoAgreement(t, list)
	}
}

// Of each number of sources each number agrees in turn, and the others are
// alone, before or behind them.
func TestMoreThanHalfHaveToAgree(t *testing.T) {
	for all := 1; all <= mostSources; all++ {
		for agreeing := 1; agreeing <= all; agreeing++ {
			var list []impl.Span
			for n := range all {
				if n < agreeing {
					list = append(list, impl.Span{Low: -n, High: 10 + n})
				} else {
					list = append(list, impl.Span{Low: 100 * n, High: 100*n + 50})
				}
			}
			backward := slices.Clone(list)
			slices.Reverse(backward)
			if 2*agreeing <= all {
				expectNoAgreement(t, list)
				expectNoAgreement(t, backward)
				continue
			}
			expectAgreement(t, list, impl.Span{High: 10})
			expectAgreement(t, backward, impl.Span{High: 10})
		}
	}
}

func TestP40AgreedNumbersHaveTheMostVotes(t *testing.T) {
	for _, list := range spanLists() {
		want, most := plainAgreed(list)
		if got := impl.MostVotes(list); got != most {
			t.Errorf("MostVotes(%v) = %d, want %d", list, got, most)
		}
		if 2*most <= len(list) {
			expectNoAgreement(t, list)
			continue
		}
		expectAgreement(t, list, want)
		got, _ := impl.AgreedSpan(list)
		low, high, below := impl.VotesFor(list, got.Low), impl.VotesFor(list, got.High), impl.VotesFor(list, got.Low-1)
		if low != most || high != most || below >= most || below < 0 {
			t.Errorf("AgreedSpan(%v) = %v: %d and %d votes for its ends, %d below it, %d at most", list, got, low, high, below, most)
		}
	}
}

func TestP41WhoIsAloneAgrees(t *testing.T) {
	ends := []int{-farOffset, -farOffset + 1, -1, 0, 1, 2, 99, farOffset - 1, farOffset}
	for _, low := range ends {
		for _, high := range ends {
			if low <= high {
				expectAgreement(t, spansOf(low, high), impl.Span{Low: low, High: high})
			}
		}
	}
}

func TestP42TheOrderOfSourcesDoesNotMatter(t *testing.T) {
	for _, list := range spanLists() {
		want, wantOk := impl.AgreedSpan(list)
		other := slices.Clone(list)
		slices.Reverse(other)
		for range list {
			if got, ok := impl.AgreedSpan(other); got != want || ok != wantOk {
				t.Errorf("AgreedSpan(%v) = %v, %v, but of %v it is %v, %v", list, want, wantOk, other, got, ok)
			}
			other = append(other[1:], other[0])
		}
	}
}

func TestP163WhoAgreesWithTheOthersChangesLittle(t *testing.T) {
	for _, list := range spanLists() {
		agreed, ok := impl.AgreedSpan(list)
		if !ok || len(list) == mostSources {
			continue
		}
		for at := 0; at <= len(list); at++ {
			expectAgreement(t, slices.Insert(slices.Clone(list), at, agreed), agreed)
		}
	}
}

func TestFalseSources(t *testing.T) {
	cases := []struct {
		list []impl.Span
		want []int
	}{
		{spansOf(0, 0), nil},
		{spansOf(0, 5, 5, 9), nil},
		{spansOf(3, 8, 3, 8, 3, 8), nil},
		{spansOf(0, 10, 0, 4, 5, 10), []int{2}},
		{spansOf(5, 10, 0, 10, 0, 4), []int{0}},
		{spansOf(0, 5, 6, 9, 2, 6), []int{1}},
		{spansOf(0, 4, 5, 9, 5, 9), []int{0}},
		{spansOf(50, 60, 1, 9, 40, 45, 2, 8, 3, 7, -9, 2, 3, 3), []int{0, 2, 5}},
		{spansOf(1, 9, 2, 8, 3, 7, 3, 3, 50, 60, 40, 45, -9, 2), []int{4, 5, 6}},
	}
	for _, c := range cases {
		if got, ok := impl.FalseSources(c.list); !slices.Equal(got, c.want) || !ok {
			t.Errorf("FalseSources(%v) = %v, %v, want %v", c.list, got, ok, c.want)
		}
	}
}

func TestP43FalseSourcesDoNotAgree(t *testing.T) {
	for _, list := range spanLists() {
		agreed, agree := impl.AgreedSpan(list)
		sources, ok := impl.FalseSources(list)
		if ok != agree {
			t.Errorf("FalseSources(%v) = %v, %v", list, sources, ok)
		}
		if !ok {
			continue
		}
		var want []int
		for n, s := range list {
			if agreed.Low < s.Low || s.High < agreed.Low {
				want = append(want, n)
			} else if s.High < agreed.High {
				t.Errorf("%v: %v has not the whole of %v", list, s, agreed)
			}
		}
		if !slices.Equal(sources, want) || 2*len(sources) >= len(list) {
			t.Errorf("FalseSources(%v) = %v, want %v", list, sources, want)
		}
	}
}

func TestP44TheMiddleIsAgreed(t *testing.T) {
	for _, list := range spanLists() {
		agreed, agree := impl.AgreedSpan(list)
		middle, ok := impl.MiddleOf(list)
		if ok != agree {
			t.Errorf("MiddleOf(%v) = %d, %v", list, middle, ok)
		}
		if !ok {
			continue
		}
		if middle < agreed.Low || middle > agreed.High || impl.VotesFor(list, middle) != impl.MostVotes(list) {
			t.Errorf("MiddleOf(%v) = %d, not in %v", list, middle, agreed)
		}
		if below, above := middle-agreed.Low, agreed.High-middle; above-below != 0 && above-below != 1 {
			t.Errorf("MiddleOf(%v) = %d is not in the middle of %v", list, middle, agreed)
		}
	}
}

func TestP145OffsetsCanBeShifted(t *testing.T) {
	for _, list := range spanLists() {
		for _, by := range []int{4, -4, 1, 1000} {
			shifted := slices.Clone(list)
			valid := true
			for n := range shifted {
				shifted[n].Low += by
				shifted[n].High += by
				valid = valid && -farOffset <= shifted[n].Low && shifted[n].High <= farOffset
			}
			if !valid {
				expectNoAgreement(t, shifted)
				continue
			}
			want, wantOk := impl.MiddleOf(list)
			if wantOk {
				want += by
			}
			if got, ok := impl.MiddleOf(shifted); got != want || ok != wantOk {
				t.Errorf("MiddleOf(%v) = %d, %v, want %d", shifted, got, ok, want)
			}
		}
	}
}

func TestSpansAreNotChanged(t *testing.T) {
	lists := append(spanLists(), wrongSpanLists()...)
	for n, kept := range append(spanLists(), wrongSpanLists()...) {
		list := lists[n]
		impl.ValidSpans(list)
		impl.VotesFor(list, 1)
		impl.MostVotes(list)
		impl.AgreedSpan(list)
		impl.FalseSources(list)
		impl.MiddleOf(list)
		if !slices.Equal(list, kept) {
			t.Errorf("%v became %v", kept, list)
		}
	}
}

func TestResultsOfFalseSourcesAreNew(t *testing.T) {
	list := spansOf(50, 60, 0, 9, 0, 9)
	first, _ := impl.FalseSources(list)
	if len(first) != 1 {
		t.Fatalf("FalseSources(%v) = %v", list, first)
	}
	first[0] = 99
	if second, ok := impl.FalseSources(list); !slices.Equal(second, []int{0}) || !ok {
		t.Errorf("FalseSources(%v) = %v, %v", list, second, ok)
	}
}

// expectAgreement checks on which numbers sources agree.
func expectAgreement(t *testing.T, list []impl.Span, want impl.Span) {
	t.Helper()
	if got, ok := impl.AgreedSpan(list); got != want || !ok {
		t.Errorf("AgreedSpan(%v) = %v, %v, want %v", list, got, ok, want)
	}
}

// expectNoAgreement checks that sources do not agree, or are not valid.
func expectNoAgreement(t *testing.T, list []impl.Span) {
	t.Helper()
	if got, ok := impl.AgreedSpan(list); ok || got != (impl.Span{}) {
		t.Errorf("AgreedSpan(%v) = %v, %v", list, got, ok)
	}
	if got, ok := impl.FalseSources(list); ok || len(got) > 0 {
		t.Errorf("FalseSources(%v) = %v, %v", list, got, ok)
	}
	if got, ok := impl.MiddleOf(list); ok || got != 0 {
		t.Errorf("MiddleOf(%v) = %d, %v", list, got, ok)
	}
}

// plainVotes counts the spans that have a number.
func plainVotes(list []impl.Span, n int) int {
	votes := 0
	for _, s := range list {
		if s.Low <= n && n <= s.High {
			votes++
		}
	}
	return votes
}

// plainAgreed searches number by number for those that most spans have, and
// tells how many spans that are.
func plainAgreed(list []impl.Span) (impl.Span, int) {
	var agreed impl.Span
	most := 0
	numbers := numbersNear(list)
	for _, n := range numbers {
		if votes := plainVotes(list, n); votes > most {
			agreed.Low, most = n, votes
		}
	}
	for _, n := range numbers {
		shared := n >= agreed.Low
		for _, s := range list {
			shared = shared && (agreed.Low < s.Low || s.High < agreed.Low || n <= s.High)
		}
		if shared {
			agreed.High = n
		}
	}
	return agreed, most
}

// numbersNear returns the ends of spans, the numbers beside them and some
// others, ascending.
func numbersNear(list []impl.Span) []int {
	numbers := []int{-farOffset - 1, -farOffset, -farOffset + 1, -1, 0, 1, farOffset - 1, farOffset, farOffset + 1}
	for _, s := range list {
		numbers = append(numbers, s.Low-1, s.Low, s.Low+1, (s.Low+s.High)/2, s.High-1, s.High, s.High+1)
	}
	slices.Sort(numbers)
	return slices.Compact(numbers)
}

// spansOf returns spans by their ends.
func spansOf(ends ...int) []impl.Span {
	var list []impl.Span
	for n := 0; n+1 < len(ends); n += 2 {
		list = append(list, impl.Span{Low: ends[n], High: ends[n+1]})
	}
	return list
}

// spanLists returns valid spans: all lists of at most three spans of a few
// numbers, and longer ones whose spans are near each other, or anywhere.
func spanLists() [][]impl.Span {
	var few []impl.Span
	for low := range 4 {
		for high := low; high < 4; high++ {
			few = append(few, impl.Span{Low: low, High: high})
		}
	}
	var lists [][]impl.Span
	for _, a := range few {
		lists = append(lists, []impl.Span{a})
		for _, b := range few {
			lists = append(lists, []impl.Span{a, b})
			for _, c := range few {
				lists = append(lists, []impl.Span{a, b, c})
			}
		}
	}
	lists = append(lists, spansOf(-farOffset, farOffset), spansOf(-farOffset, -farOffset, farOffset, farOffset), spansOf(farOffset, farOffset), spansOf(-farOffset, -farOffset), spansOf(-farOffset, 0, 0, farOffset), spansOf(-farOffset, -1, 0, farOffset, -1, 0))
	var d dice
	for n := range 400 {
		var list []impl.Span
		for range 1 + n%mostSources {
			list = append(list, thrownSpan(&d, []int{5, 10, 30, farOffset}[n/mostSources%4]))
		}
		lists = append(lists, list)
	}
	return lists
}

// thrownSpan returns a span whose ends are at most far away from 0.
func thrownSpan(d *dice, far int) impl.Span {
	a, b := d.throw(2*far+1)-far, d.throw(2*far+1)-far
	return impl.Span{Low: min(a, b), High: max(a, b)}
}

// wrongSpanLists returns spans that are not valid, each list for one reason.
func wrongSpanLists() [][]impl.Span {
	lists := [][]impl.Span{nil, {}}
	full := make([]impl.Span, mostSources)
	for n := range full {
		full[n] = impl.Span{Low: -n, High: 5 + n}
	}
	lists = append(lists, append(slices.Clone(full), impl.Span{Low: 1, High: 4}), slices.Concat(full, full), make([]impl.Span, mostSources+1))
	wrong := spansOf(1, 0, 5, 4, -3, -4, farOffset, farOffset-1, farOffset, -farOffset, 0, math.MinInt, math.MaxInt, math.MinInt)
	for _, n := range outside(-farOffset, farOffset) {
		wrong = append(wrong, impl.Span{Low: n, High: n})
		if n < 0 {
			wrong = append(wrong, impl.Span{Low: n, High: 5})
		} else {
			wrong = append(wrong, impl.Span{Low: 0, High: n})
		}
	}
	for _, s := range wrong {
		lists = append(lists, []impl.Span{s})
		for at := range full {
			list := slices.Clone(full)
			list[at] = s
			lists = append(lists, list)
		}
	}
	return lists
}
