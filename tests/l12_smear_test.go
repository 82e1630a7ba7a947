package tests

import (
	"slices"
	"testing"

	"loop.example/satelliteclock/impl"
)

func TestLimitsOfSmears(t *testing.T) {
	if impl.SmearSeconds != smearLong {
		t.Error("the limit of chapter 12 is not that of the document")
	}
}

func TestSmearAt(t *testing.T) {
	cases := []struct {
		// The seconds behind the leap second.
		seconds int
		want    int
	}{
		{-smearLong, 0},
		{-halfSmear - 1, 0},
		{-halfSmear, 0},
		{-halfSmear + 1, 11},
		{-halfSmear + 2, 23},
		{-halfSmear + 3, 34},
		{-halfSmear + 53, 613},
		{-halfSmear + 54, 625},
		{-halfSmear + 55, 636},
		{-halfSmear / 2, 250000},
		{-1, 499988},
		{0, 500000},
		{1, 500011},
		{halfSmear / 2, 750000},
		{halfSmear - 54, 999375},
		{halfSmear - 2, 999976},
		{halfSmear - 1, 999988},
		{halfSmear, 1000000},
		{halfSmear + 1, 1000000},
		{smearLong, 1000000},
	}
	for _, c := range cases {
		for _, at := range someSmears() {
			expectSmear(t, at, at+c.seconds, c.want)
		}
	}
}

func TestSmearsOfAllTimes(t *testing.T) {
	for _, at := range someSmears() {
		for _, when := range timesOfSmear(at) {
			expectSmear(t, at, when, plainSmear(at, when))
		}
	}
}

// The first and the last leap second that are valid, and those beside them.
func TestLeapSecondsThatCannotBeSmeared(t *testing.T) {
	expectSmear(t, smearLong, smearLong, 500000)
	expectSmear(t, lastTime-smearLong, lastTime-smearLong, 500000)
	for _, at := range append(outside(smearLong, lastTime-smearLong), -1, 0, 1, halfSmear, lastTime-halfSmear, lastTime, lastTime+1) {
		for _, when := range []int{0, 1, 5, at - 1, at, at + 1, at - halfSmear, at + halfSmear, smearLong, lastCivil, lastTime} {
			expectSmear(t, at, when, -1)
			expectSmearedStamp(t, at, when, -1)
		}
		for _, micros := range someAmounts() {
			expectDone(t, at, micros, -1)
		}
	}
}

func TestTimesThatCannotBeSmeared(t *testing.T) {
	for _, at := range someSmears() {
		expectSmear(t, at, 0, 0)
		expectSmear(t, at, lastTime, 1000000)
		for _, when := range outside(0, lastTime) {
			expectSmear(t, at, when, -1)
			expectSmearedStamp(t, at, when, -1)
		}
		expectSmearedStamp(t, at, lastTime, -1)
	}
}

func TestP96SmearsAreSlow(t *testing.T) {
	for _, at := range someSmears() {
		times := timesOfSmear(at)
		for n, when := range times {
			held := impl.SmearAt(at, when)
			if held < 0 || held > 1000000 {
				t.Errorf("SmearAt(%d, %d) = %d", at, when, held)
			}
			if n > 0 && held < impl.SmearAt(at, times[n-1]) {
				t.Errorf("SmearAt(%d, %d) = %d, at %d it is greater", at, when, held, times[n-1])
			}
			if when == lastTime {
				continue
			}
			if grows := impl.SmearAt(at, when+1) - held; grows < 0 || grows > 12 {
				t.Errorf("SmearAt(%d, %d) = %d, and grows by %d behind it", at, when, held, grows)
			}
		}
	}
	// All seconds of a smear.
	before := 0
	for when := 1000000 - halfSmear - 5; when < 1000000+halfSmear+5; when++ {
		held := impl.SmearAt(1000000, when)
		if held < before || held > before+12 || held > 1000000 {
			t.Fatalf("SmearAt(1000000, %d) = %d, a second before it %d", when, held, before)
		}
		before = held
	}
}

func TestP97SmearsBeginAndEnd(t *testing.T) {
	for _, at := range someSmears() {
		expectSmear(t, at, at-halfSmear, 0)
		expectSmear(t, at, at, 500000)
		expectSmear(t, at, at+halfSmear, 1000000)
	}
}

func TestP151SmearsMoveWithTheLeapSecond(t *testing.T) {
	for _, at := range someSmears() {
		if at+dayLong > lastTime-smearLong {
			continue
		}
		for _, when := range timesOfSmear(at) {
			if when+dayLong <= lastTime {
				expectSmear(t, at+dayLong, when+dayLong, impl.SmearAt(at, when))
			}
		}
	}
}

func TestSmearedStamp(t *testing.T) {
	cases := []struct {
		at   int
		when int
		want int
	}{
		{1000000, 0, 0},
		{1000000, 1, 1000000},
		{1000000, 1000000 - halfSmear, 956800000000},
		{1000000, 1000000 - halfSmear + 1, 956800999989},
		{1000000, 1000000, 999999500000},
		{1000000, 1000001, 1000000499989},
		{1000000, 1000000 + halfSmear - 1, 1043198000012},
		{1000000, 1000000 + halfSmear, 1043199000000},
		{1000000, 1000000 + halfSmear + 1, 1043200000000},
		// The last time, before, in and behind a smear.
		{1000000, lastCivil, 199999999000000},
		{lastCivil - halfSmear, lastCivil, 199999999000000},
		{lastCivil - halfSmear + 1, lastCivil, 199999999000012},
		{lastCivil, lastCivil, 199999999500000},
		{lastCivil + halfSmear - 1, lastCivil, 199999999999989},
		{lastCivil + halfSmear, lastCivil, 200000000000000},
		{lastTime - smearLong, lastCivil, 200000000000000},
		{lastTime - smearLong, 0, 0},
		{smearLong, 0, 0},
		{smearLong, smearLong, 86399500000},
		{smearLong, lastCivil, 199999999000000},
	}
	for _, c := range cases {
		expectSmearedStamp(t, c.at, c.when, c.want)
	}
}

func TestSmearedStampsOfAllTimes(t *testing.T) {
	for _, at := range someSmears() {
		for _, when := range timesOfSmear(at) {
			if when <= lastCivil {
				expectSmearedStamp(t, at, when, 1000000*when-plainSmear(at, when))
			} else {
				expectSmearedStamp(t, at, when, -1)
			}
		}
		for _, when := range append(outside(0, lastCivil), lastTime) {
			expectSmearedStamp(t, at, when, -1)
		}
	}
}

func TestSmearedStampsAreTimeStamps(t *testing.T) {
	for _, at := range someSmears() {
		for _, when := range timesOfSmear(at) {
			if when > lastCivil {
				continue
			}
			if _, _, ok := impl.SplitStamp(impl.SmearedStamp(at, when)); !ok {
				t.Errorf("SmearedStamp(%d, %d) = %d is no time stamp", at, when, impl.SmearedStamp(at, when))
			}
		}
	}
}

func TestP98HeldBackTimeGoesOn(t *testing.T) {
	for _, at := range someSmears() {
		for _, when := range timesOfSmear(at) {
			if when >= lastCivil {
				continue
			}
			grows := impl.SmearedStamp(at, when+1) - impl.SmearedStamp(at, when)
			if grows < 999988 || grows > 1000000 {
				t.Errorf("SmearedStamp(%d, %d) grows by %d behind it", at, when, grows)
			}
		}
	}
}

func TestSmearDone(t *testing.T) {
	cases := []struct {
		micros int
		// The seconds from the beginning of the smear.
		want int
	}{
		{1, 1},
		{11, 1},
		{12, 2},
		{23, 2},
		{24, 3},
		{624, 54},
		{625, 54},
		{626, 55},
		{499999, halfSmear},
		{500000, halfSmear},
		{500001, halfSmear + 1},
		{500011, halfSmear + 1},
		{500012, halfSmear + 2},
		{999375, smearLong - 54},
		{999376, smearLong - 53},
		{999988, smearLong - 1},
		{999989, smearLong},
		{999999, smearLong},
		{1000000, smearLong},
	}
	for _, c := range cases {
		for _, at := range someSmears() {
			expectDone(t, at, c.micros, at-halfSmear+c.want)
		}
	}
}

func TestAmountsThatSmearsDoNotHave(t *testing.T) {
	for _, at := range someSmears() {
		expectDone(t, at, 0, -1)
		for _, micros := range outside(1, secondLong) {
			expectDone(t, at, micros, -1)
		}
	}
}

// Second by second, of all amounts.
func TestSmearDoneSecondBySecond(t *testing.T) {
	when := 1000000 - halfSmear
	for micros := 1; micros <= secondLong; micros++ {
		for impl.SmearAt(1000000, when) < micros {
			when++
		}
		if got := impl.SmearDone(1000000, micros); got != when {
			t.Fatalf("SmearDone(1000000, %d) = %d, want %d", micros, got, when)
		}
	}
}

func TestP99SmearsReachTheirAmounts(t *testing.T) {
	for _, at := range someSmears() {
		for _, micros := range someAmounts() {
			done := impl.SmearDone(at, micros)
			held, before := impl.SmearAt(at, done), impl.SmearAt(at, done-1)
			if held < micros || before >= micros || before < 0 {
				t.Errorf("SmearDone(%d, %d) = %d: %d are held back then, and %d before it", at, micros, done, held, before)
			}
		}
	}
}

func TestP100SmearsAreDoneAtTheEnd(t *testing.T) {
	for _, at := range someSmears() {
		end := at + halfSmear
		expectDone(t, at, secondLong, end)
		for _, micros := range someAmounts() {
			if done := impl.SmearDone(at, micros); done > end || done < at-halfSmear {
				t.Errorf("SmearDone(%d, %d) = %d, the end is %d", at, micros, done, end)
			}
		}
	}
}

// expectSmear checks by how much the time is held back.
func expectSmear(t *testing.T, at int, when int, want int) {
	t.Helper()
	if got := impl.SmearAt(at, when); got != want {
		t.Errorf("SmearAt(%d, %d) = %d, want %d", at, when, got, want)
	}
}

// expectSmearedStamp checks the time stamp of a time that is held back.
func expectSmearedStamp(t *testing.T, at int, when int, want int) {
	t.Helper()
	if got := impl.SmearedStamp(at, when); got != want {
		t.Errorf("SmearedStamp(%d, %d) = %d, want %d", at, when, got, want)
	}
}

// expectDone checks when the time is held back by some microseconds.
func expectDone(t *testing.T, at int, micros int, want int) {
	t.Helper()
	if got := impl.SmearDone(at, micros); got != want {
		t.Errorf("SmearDone(%d, %d) = %d, want %d", at, micros, got, want)
	}
}

// plainSmear returns by how much the time is held back, as the document says it.
func plainSmear(at int, when int) int {
	first, last := at-43200, at+43200
	if when <= first {
		return 0
	}
	if when >= last {
		return 1000000
	}
	return (when - first) * 1000000 / 86400
}

// someSmears returns leap seconds that can be taken away slowly, ascending.
func someSmears() []int {
	return []int{smearLong, smearLong + 1, 100000, 1000000, 46828800, lastCivil - halfSmear, lastCivil - 1, lastCivil, lastCivil + 1, lastCivil + halfSmear - 1, lastCivil + halfSmear, 1000000007, lastTime / 2, lastTime - smearLong - 1, lastTime - smearLong}
}

// someAmounts returns microseconds by which the time can be held back, ascending.
func someAmounts() []int {
	amounts := []int{1, 2, 10, 11, 12, 13, 23, 24, 624, 625, 626, 250000, 499988, 499989, 499999, 500000, 500001, 500011, 500012, 999976, 999977, 999988, 999989, 999999, 1000000}
	var d dice
	for range 100 {
		amounts = append(amounts, 1+d.throw(secondLong))
	}
	slices.Sort(amounts)
	return amounts
}

// timesOfSmear returns times before, in and behind a smear, ascending.
func timesOfSmear(at int) []int {
	times := []int{0, 1, lastCivil - 1, lastCivil, lastCivil + 1, lastTime / 2, lastTime - 1, lastTime}
	for _, near := range []int{-smearLong, -halfSmear, -halfSmear / 2, -54, 0, 7, 999, halfSmear, smearLong} {
		times = append(times, at+near-2, at+near-1, at+near, at+near+1, at+near+2)
	}
	var d dice
	for range 100 {
		times = append(times, at-halfSmear+d.throw(smearLong))
	}
	slices.Sort(times)
	return slices.DeleteFunc(slices.Compact(times), func(when int) bool { return when < 0 || when > lastTime })
}
