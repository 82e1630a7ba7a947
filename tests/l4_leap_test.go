package tests

import (
	"math"
	"slices"
	"testing"

	"loop.example/satelliteclock/impl"
)

func TestLimitOfLeapSeconds(t *testing.T) {
	if impl.MaxLeaps != mostLeaps {
		t.Error("the limit of chapter 4 is not that of the document")
	}
}

func TestValidLeaps(t *testing.T) {
	for _, list := range leapTables() {
		if !impl.ValidLeaps(list) {
			t.Errorf("%v is not valid", list)
		}
	}
	for _, list := range wrongLeapTables() {
		if impl.ValidLeaps(list) {
			t.Errorf("%v is valid", list)
		}
	}
}

func TestP26LeapSecondsCanBeLeftOut(t *testing.T) {
	for _, list := range leapTables() {
		for n := range list {
			if !impl.ValidLeaps(list[:n]) {
				t.Errorf("%v is valid, %v is not", list, list[:n])
			}
		}
	}
}

func TestP27LeapSecondsAreCounted(t *testing.T) {
	for _, list := range leapTables() {
		for _, at := range timesNear(list) {
			want := 0
			for _, leap := range list {
				if leap < at {
					want++
				}
			}
			got := impl.LeapsBefore(list, at)
			if got != want {
				t.Errorf("LeapsBefore(%v, %d) = %d, want %d", list, at, got, want)
			}
			if at == lastTime {
				continue
			}
			grows := impl.LeapsBefore(list, at+1) - got
			if slices.Contains(list, at) && grows != 1 || !slices.Contains(list, at) && grows != 0 {
				t.Errorf("LeapsBefore(%v, %d) grows by %d behind it", list, at, grows)
			}
		}
	}
}

func TestP28AllLeapSecondsCome(t *testing.T) {
	for _, list := range leapTables() {
		if got := impl.LeapsBefore(list, 0); got != 0 {
			t.Errorf("LeapsBefore(%v, 0) = %d", list, got)
		}
		if got := impl.LeapsBefore(list, lastTime); got != len(list) {
			t.Errorf("LeapsBefore(%v, %d) = %d", list, lastTime, got)
		}
	}
}

func TestP141LeapSecondsAreCountedOneByOne(t *testing.T) {
	for _, list := range leapTables() {
		for _, at := range timesNear(list) {
			for n := 1; n <= len(list); n++ {
				fewer, more := impl.LeapsBefore(list[:n-1], at), impl.LeapsBefore(list[:n], at)
				if fewer < 0 || more < fewer || more > fewer+1 || (more > fewer) != (list[n-1] < at) {
					t.Errorf("LeapsBefore(%v, %d) = %d, without the last one %d", list[:n], at, more, fewer)
				}
			}
		}
	}
}

func TestP29LeapSecondsAreInTheTable(t *testing.T) {
	for _, list := range leapTables() {
		for _, at := range append(timesNear(list), outside(0, lastTime)...) {
			if got := impl.IsLeapSecond(list, at); got != slices.Contains(list, at) {
				t.Errorf("IsLeapSecond(%v, %d) = %v", list, at, got)
			}
			if at < math.MaxInt && impl.IsLeapSecond(list, at) && impl.IsLeapSecond(list, at+1) {
				t.Errorf("%v: %d and the next second are leap seconds", list, at)
			}
		}
	}
	for _, list := range wrongLeapTables() {
		for _, at := range append(slices.Clone(list), 0, 1, 1000, lastTime) {
			if impl.IsLeapSecond(list, at) {
				t.Errorf("IsLeapSecond(%v, %d)", list, at)
			}
		}
	}
}

func TestCivilTimesAroundALeapSecond(t *testing.T) {
	list := []int{1, 700000, lastLeap}
	times := map[int]int{0: 0, 1: 0, 2: 1, 3: 2, 699998: 699997, 699999: 699998, 700000: 699998, 700001: 699999, lastLeap - 1: lastLeap - 3, lastLeap: lastLeap - 3, lastLeap + 1: lastLeap - 2, lastTime: lastTime - 3}
	for at, want := range times {
		if got := impl.CivilOf(list, at); got != want {
			t.Errorf("CivilOf(%v, %d) = %d, want %d", list, at, got, want)
		}
	}
	civils := map[int]int{0: 0, 1: 2, 2: 3, 699998: 699999, 699999: 700001, lastLeap - 4: lastLeap - 2, lastLeap - 3: lastLeap - 1, lastLeap - 2: lastLeap + 1, lastLeap: lastLeap + 3}
	for civil, want := range civils {
		if got := impl.SatelliteOf(list, civil); got != want {
			t.Errorf("SatelliteOf(%v, %d) = %d, want %d", list, civil, got, want)
		}
	}
}

func TestP30CivilTimeStandsStillInALeapSecond(t *testing.T) {
	for _, list := range leapTables() {
		for _, at := range timesNear(list) {
			civil := impl.CivilOf(list, at)
			if civil != plainCivil(list, at) {
				t.Errorf("CivilOf(%v, %d) = %d, want %d", list, at, civil, plainCivil(list, at))
			}
			want := civil + 1
			if slices.Contains(list, at+1) {
				want = civil
			}
			if at == lastTime {
				want = -1
			}
			if got := impl.CivilOf(list, at+1); got != want {
				t.Errorf("CivilOf(%v, %d) = %d, want %d", list, at+1, got, want)
			}
		}
	}
}

func TestP31WithoutLeapSecondsTimesAreEqual(t *testing.T) {
	for _, at := range someTimes() {
		if impl.CivilOf(nil, at) != at || impl.CivilOf([]int{}, at) != at {
			t.Fatalf("CivilOf(nil, %d) = %d", at, impl.CivilOf(nil, at))
		}
		if at <= lastLeap && impl.SatelliteOf(nil, at) != at {
			t.Fatalf("SatelliteOf(nil, %d) = %d", at, impl.SatelliteOf(nil, at))
		}
	}
	for _, list := range leapTables() {
		for _, at := range timesNear(list) {
			if got := impl.CivilOf(list, at); got < 0 || got > at {
				t.Errorf("CivilOf(%v, %d) = %d", list, at, got)
			}
		}
	}
}

func TestP162LeapSecondsRepeatACivilSecond(t *testing.T) {
	for _, list := range leapTables() {
		for n, leap := range list {
			before, in, behind := impl.CivilOf(list, leap-1), impl.CivilOf(list, leap), impl.CivilOf(list, leap+1)
			if before != leap-1-n || in != before || behind != before+1 {
				t.Errorf("%v: around %d CivilOf is %d, %d, %d", list, leap, before, in, behind)
			}
		}
	}
}

func TestP32CivilTimesComeBack(t *testing.T) {
	for _, list := range leapTables() {
		for _, civil := range civilsNear(list) {
			at := impl.SatelliteOf(list, civil)
			if impl.CivilOf(list, at) != civil || impl.IsLeapSecond(list, at) {
				t.Errorf("SatelliteOf(%v, %d) = %d, with the civil time %d", list, civil, at, impl.CivilOf(list, at))
			}
			// Civil times are not ahead, so the first time is not before the civil time.
			want := civil
			for plainCivil(list, want) != civil {
				want++
			}
			if at != want {
				t.Errorf("SatelliteOf(%v, %d) = %d, want %d", list, civil, at, want)
			}
		}
	}
}

func TestP33LaterCivilTimesAreLater(t *testing.T) {
	for _, list := range leapTables() {
		for _, civil := range civilsNear(list) {
			if civil == lastLeap {
				continue
			}
			at := impl.SatelliteOf(list, civil)
			want := at + 1
			if slices.Contains(list, at+1) {
				want = at + 2
			}
			if got := impl.SatelliteOf(list, civil+1); got != want {
				t.Errorf("SatelliteOf(%v, %d) = %d, want %d", list, civil+1, got, want)
			}
		}
	}
}

func TestP142TimesComeBackButForLeapSeconds(t *testing.T) {
	for _, list := range leapTables() {
		for _, at := range timesNear(list) {
			want := at
			if slices.Contains(list, at) {
				want = at - 1
			}
			if plainCivil(list, at) > lastLeap {
				want = -1
			}
			if got := impl.SatelliteOf(list, impl.CivilOf(list, at)); got != want {
				t.Errorf("SatelliteOf CivilOf(%v, %d) = %d, want %d", list, at, got, want)
			}
		}
	}
}

func TestP34TheNextLeapSecondIsTheFirstOne(t *testing.T) {
	for _, list := range leapTables() {
		for _, at := range timesNear(list) {
			next := impl.NextLeap(list, at)
			if next < 0 {
				continue
			}
			if !impl.IsLeapSecond(list, next) || next < at {
				t.Errorf("NextLeap(%v, %d) = %d", list, at, next)
			}
			for _, leap := range list {
				if at <= leap && leap < next {
					t.Errorf("NextLeap(%v, %d) = %d, but %d lies between", list, at, next, leap)
				}
			}
		}
	}
}

func TestP35BehindTheLastLeapSecondThereIsNone(t *testing.T) {
	for _, list := range leapTables() {
		for _, at := range timesNear(list) {
			none := true
			for _, leap := range list {
				none = none && leap < at
			}
			got := impl.NextLeap(list, at)
			if (got == -1) != none || none != (impl.LeapsBefore(list, at) == len(list)) {
				t.Errorf("NextLeap(%v, %d) = %d", list, at, got)
			}
		}
	}
}

func TestWrongLeapTables(t *testing.T) {
	for _, list := range wrongLeapTables() {
		for _, at := range append(slices.Clone(list), 0, 1, 999, 1000, 1001, lastLeap, lastTime, -1) {
			expectNoLeaps(t, list, at)
			if got := impl.SatelliteOf(list, at); got != -1 {
				t.Errorf("SatelliteOf(%v, %d) = %d", list, at, got)
			}
		}
	}
}

func TestTimesOutOfRangeWithLeaps(t *testing.T) {
	for _, list := range leapTables() {
		for _, at := range outside(0, lastTime) {
			expectNoLeaps(t, list, at)
		}
		for _, civil := range append(outside(0, lastLeap), lastTime, lastTime-mostLeaps) {
			if got := impl.SatelliteOf(list, civil); got != -1 {
				t.Errorf("SatelliteOf(%v, %d) = %d", list, civil, got)
			}
		}
	}
}

func TestLeapTablesAreNotChanged(t *testing.T) {
	lists := append(leapTables(), wrongLeapTables()...)
	for n, kept := range append(leapTables(), wrongLeapTables()...) {
		list := lists[n]
		impl.ValidLeaps(list)
		impl.IsLeapSecond(list, 1000)
		impl.SatelliteOf(list, 1000)
		impl.CivilOf(list, 1000)
		impl.NextLeap(list, 1000)
		if !slices.Equal(list, kept) {
			t.Errorf("%v became %v", kept, list)
		}
	}
}

// expectNoLeaps checks that a table or a time is refused.
func expectNoLeaps(t *testing.T, list []int, at int) {
	t.Helper()
	if before, civil, next := impl.LeapsBefore(list, at), impl.CivilOf(list, at), impl.NextLeap(list, at); before != -1 || civil != -1 || next != -1 {
		t.Errorf("%v, %d: LeapsBefore %d, CivilOf %d, NextLeap %d", list, at, before, civil, next)
	}
}

// plainCivil takes a second from a time for each leap second up to it.
func plainCivil(list []int, at int) int {
	civil := at
	for _, leap := range list {
		if leap <= at {
			civil--
		}
	}
	return civil
}

// leapTables returns valid tables of every length, those with leap seconds as
// early, as late and as close as they may be among them.
func leapTables() [][]int {
	tables := [][]int{nil, {}, {1}, {2}, {1000}, {lastLeap}, {1, 1 + weekLong}, {1000, 1000 + weekLong}, {1, lastLeap}, {lastLeap - weekLong, lastLeap}, {46828800, 78364801, 109900802}}
	for n := 3; n <= mostLeaps; n++ {
		var early, late, far []int
		for i := range n {
			early = append(early, 1+i*weekLong)
			late = append(late, lastLeap-(n-1-i)*weekLong)
			far = append(far, 1234+i*(lastLeap-1234)/n)
		}
		tables = append(tables, early, late, far)
	}
	return tables
}

// wrongLeapTables returns tables that are not valid, each for one reason.
func wrongLeapTables() [][]int {
	tables := [][]int{{0}, {-1}, {lastLeap + 1}, {lastTime}, {lastTime + 1}, {math.MinInt}, {math.MaxInt}, {1000, 999 + weekLong}, {1000, 1000}, {1000 + weekLong, 1000}, {1000, 1001}, {0, weekLong}, {1000, lastLeap + 1}, {1000, math.MaxInt}, {1000, math.MinInt}, {math.MaxInt, math.MinInt}, {math.MinInt, math.MaxInt}}
	var full []int
	for i := range mostLeaps {
		full = append(full, 1+i*weekLong)
	}
	tables = append(tables, append(slices.Clone(full), 1+mostLeaps*weekLong))
	for i := 1; i < mostLeaps; i++ {
		near := slices.Clone(full)
		for k := i; k < mostLeaps; k++ {
			near[k]--
		}
		tables = append(tables, near)
	}
	return tables
}

// timesNear returns satellite times, ascending: the smallest and the largest
// ones, and those around the leap seconds of a table and between them.
func timesNear(list []int) []int {
	times := []int{0, 1, 2, 3, 999, 1000, 1001, weekLong, lastLeap - 1, lastLeap, lastLeap + 1, lastTime - 1, lastTime}
	for _, leap := range list {
		for at := max(0, leap-mostLeaps-1); at <= leap+mostLeaps+1; at++ {
			times = append(times, at)
		}
		times = append(times, leap+weekLong/2)
	}
	slices.Sort(times)
	return slices.Compact(times)
}

// civilsNear returns the civil times among the times near leap seconds.
func civilsNear(list []int) []int {
	return slices.DeleteFunc(timesNear(list), func(at int) bool { return at > lastLeap })
}
