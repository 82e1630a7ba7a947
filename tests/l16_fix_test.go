package tests

import (
	"fmt"
	"regexp"
	"strconv"
	"strings"
	"testing"
	"time"

	"loop.example/satelliteclock/impl"
)

func TestLimitsOfFixes(t *testing.T) {
	if impl.MaxSeen != mostSeen {
		t.Error("a limit of chapter 16 is not that of the document")
	}
}

func TestValidFix(t *testing.T) {
	for _, f := range someFixes() {
		if !impl.ValidFix(f) {
			t.Errorf("%v is not valid", f)
		}
	}
	for _, f := range wrongFixes() {
		if impl.ValidFix(f) {
			t.Errorf("%v is valid", f)
		}
	}
}

func TestP123FixesHaveSentences(t *testing.T) {
	for _, f := range append(someFixes(), wrongFixes()...) {
		s := impl.FormatFix(f)
		if valid := impl.ValidFix(f); valid != (s != "") {
			t.Errorf("%v is valid: %v, FormatFix = %q", f, valid, s)
		}
	}
	for _, f := range wrongFixes() {
		if s := impl.FormatFix(f); s != "" {
			t.Errorf("FormatFix(%v) = %q", f, s)
		}
	}
}

func TestFormatFix(t *testing.T) {
	cases := []struct {
		fix  impl.Fix
		want string
	}{
		{impl.Fix{Date: date(1980, 1, 1)}, "FIX,000000,01,01,1980,0"},
		{impl.Fix{Date: date(1980, 1, 6), Second: 1, Seen: 1}, "FIX,000001,06,01,1980,1"},
		{impl.Fix{Date: date(2026, 11, 17), Second: 3723, Seen: 9}, "FIX,010203,17,11,2026,9"},
		{impl.Fix{Date: date(2024, 2, 29), Second: 59, Seen: 10}, "FIX,000059,29,02,2024,10"},
		{impl.Fix{Date: date(2024, 2, 29), Second: 60, Seen: 32}, "FIX,000100,29,02,2024,32"},
		{impl.Fix{Date: date(2000, 9, 30), Second: 3599, Seen: 4}, "FIX,005959,30,09,2000,4"},
		{impl.Fix{Date: date(2000, 10, 1), Second: 3600, Seen: 4}, "FIX,010000,01,10,2000,4"},
		{impl.Fix{Date: date(2000, 10, 1), Second: 86339, Seen: 4}, "FIX,235859,01,10,2000,4"},
		{impl.Fix{Date: date(2000, 10, 1), Second: 86340, Seen: 4}, "FIX,235900,01,10,2000,4"},
		{impl.Fix{Date: date(2016, 12, 31), Second: 86399, Seen: 9}, "FIX,235959,31,12,2016,9"},
		{impl.Fix{Date: date(2016, 12, 31), Second: 86400, Seen: 9}, "FIX,235960,31,12,2016,9"},
		{impl.Fix{Date: date(2017, 1, 1), Second: 0, Seen: 9}, "FIX,000000,01,01,2017,9"},
		{impl.Fix{Date: date(2017, 1, 1), Second: 86400, Seen: 0}, "FIX,235960,01,01,2017,0"},
		{impl.Fix{Date: date(2099, 12, 31), Second: 86400, Seen: 32}, "FIX,235960,31,12,2099,32"},
	}
	for _, c := range cases {
		expectFix(t, c.fix, plainFrame(c.want))
	}
	expectFix(t, impl.Fix{Date: date(2016, 12, 31), Second: 86400, Seen: 9}, "$FIX,235960,31,12,2016,9*4D")
}

func TestSentencesOfAllSeconds(t *testing.T) {
	for second := 0; second <= dayLong; second++ {
		f := impl.Fix{Date: date(2012, 6, 30), Second: second, Seen: second % (mostSeen + 1)}
		expectFix(t, f, plainSentence(f))
	}
}

func TestSentencesOfAllDates(t *testing.T) {
	for n, d := range calendar() {
		f := impl.Fix{Date: d, Second: n, Seen: n % (mostSeen + 1)}
		expectFix(t, f, plainSentence(f))
	}
}

func TestP124SentencesOfFixesLoseNothing(t *testing.T) {
	for _, f := range someFixes() {
		if got, ok := impl.ParseFix(impl.FormatFix(f)); got != f || !ok {
			t.Errorf("ParseFix(FormatFix(%v)) = %v, %v", f, got, ok)
		}
	}
}

func TestP125FixesHaveOneSentence(t *testing.T) {
	for _, text := range fixTexts() {
		expectRead(t, plainFrame(text))
	}
	// All texts with one byte of a right one changed, left out or added.
	for _, f := range someFixes()[:40] {
		text := plainText(f)
		for i := range len(text) + 1 {
			for _, b := range " 0123456789,+-.:ABFIXx_" {
				expectRead(t, plainFrame(text[:i]+string(b)+text[i:]))
				if i < len(text) {
					expectRead(t, plainFrame(text[:i]+string(b)+text[i+1:]))
				}
			}
			if i < len(text) {
				expectRead(t, plainFrame(text[:i]+text[i+1:]))
			}
		}
	}
}

// Of all clocks with two digits each those of a day are taken, and one more.
func TestClocksThatAreTaken(t *testing.T) {
	for hour := range 100 {
		for minute := range 100 {
			for second := range 100 {
				if hour > 25 && hour%10 != 0 || minute > 62 && minute%10 != 0 {
					continue
				}
				want := impl.Fix{Date: date(2026, 11, 17), Second: hour*3600 + minute*60 + second, Seen: 9}
				ok := hour < 24 && minute < 60 && second < 60 || hour == 23 && minute == 59 && second == 60
				s := plainFrame(fmt.Sprintf("FIX,%02d%02d%02d,17,11,2026,9", hour, minute, second))
				if !ok {
					expectNoFix(t, s)
				} else if got, taken := impl.ParseFix(s); got != want || !taken {
					t.Errorf("ParseFix(%q) = %v, %v, want %v", s, got, taken, want)
				}
			}
		}
	}
}

// Of all days and months with two digits each those of the calendar are taken.
func TestDatesThatAreTaken(t *testing.T) {
	for _, year := range []int{0, 80, 999, 1979, 1980, 1981, 2000, 2023, 2024, 2099, 2100, 9999} {
		for month := range 100 {
			for day := range 100 {
				at := time.Date(year, time.Month(month), day, 0, 0, 0, 0, time.UTC)
				ok := year >= firstYear && year <= lastYear && at.Year() == year && int(at.Month()) == month && at.Day() == day
				want := impl.Fix{Date: date(year, month, day), Second: 3723, Seen: 9}
				s := plainFrame(fmt.Sprintf("FIX,010203,%02d,%02d,%04d,9", day, month, year))
				if !ok {
					expectNoFix(t, s)
				} else if got, taken := impl.ParseFix(s); got != want || !taken {
					t.Errorf("ParseFix(%q) = %v, %v, want %v", s, got, taken, want)
				}
			}
		}
	}
}

func TestSatellitesThatAreTaken(t *testing.T) {
	for seen := range 1200 {
		s := plainFrame("FIX,010203,17,11,2026," + strconv.Itoa(seen))
		if seen > mostSeen {
			expectNoFix(t, s)
			continue
		}
		want := impl.Fix{Date: date(2026, 11, 17), Second: 3723, Seen: seen}
		if got, ok := impl.ParseFix(s); got != want || !ok {
			t.Errorf("ParseFix(%q) = %v, %v", s, got, ok)
		}
		for _, zeros := range []string{"0", "00", "+", "-", " "} {
			expectNoFix(t, plainFrame("FIX,010203,17,11,2026,"+zeros+strconv.Itoa(seen)))
		}
	}
}

func TestTextsThatAreNoFixes(t *testing.T) {
	for _, text := range []string{
		// Another beginning, or none.
		"", "F", "FIX", "FIX,", "FIX,,,,,", "fix,010203,17,11,2026,9", "Fix,010203,17,11,2026,9", "FIXES,010203,17,11,2026,9", "GPS,010203,17,11,2026,9", "010203,17,11,2026,9", ",010203,17,11,2026,9", " FIX,010203,17,11,2026,9", "FIX 010203,17,11,2026,9", "FIX010203,17,11,2026,9", "FIX,FIX,010203,17,11,2026,9",
		// A field too few or too many.
		"FIX,010203,17,11,2026", "FIX,010203,17,11,9", "FIX,010203,17,2026,9", "FIX,17,11,2026,9", "FIX,010203,17,11,2026,9,", "FIX,010203,17,11,2026,9,9", "FIX,01,02,03,17,11,2026,9", "FIX,,010203,17,11,2026,9", "FIX,010203,,17,11,2026,9",
		// An empty field.
		"FIX,,17,11,2026,9", "FIX,010203,,11,2026,9", "FIX,010203,17,,2026,9", "FIX,010203,17,11,,9", "FIX,010203,17,11,2026,",
		// Another sign between fields, or none.
		"FIX;010203;17;11;2026;9", "FIX,010203 17 11 2026 9", "FIX,010203,17.11.2026,9", "FIX,010203,17112026,9", "FIX,010203,17,11,20269", "FIX,01:02:03,17,11,2026,9",
		// Signs, blanks and letters.
		"FIX,+10203,17,11,2026,9", "FIX,-10203,17,11,2026,9", "FIX,010203,+7,11,2026,9", "FIX,010203,-7,11,2026,9", "FIX,010203,17,+1,2026,9", "FIX,010203,17,11,+026,9", "FIX,010203,17,11,+2026,9", "FIX,010203,17,11,-2026,9", "FIX,010203,17,11,2026,+9", "FIX,010203,17,11,2026,-9", "FIX,010203,17,11,2026,-0",
		"FIX, 10203,17,11,2026,9", "FIX,010203, 7,11,2026,9", "FIX,010203,17, 1,2026,9", "FIX,010203,17,11, 026,9", "FIX,010203,17,11,2026, 9", "FIX,010203,17,11,2026,9 ", "FIX,01 203,17,11,2026,9",
		"FIX,0102O3,17,11,2026,9", "FIX,010203,l7,11,2026,9", "FIX,010203,17,1l,2026,9", "FIX,010203,17,Nov,2026,9", "FIX,010203,17,11,2O26,9", "FIX,010203,17,11,2026,x", "FIX,010203,17,11,2026,9x", "FIX,010203,17,11,0x7e,9", "FIX,010203,17,11,2026,1e",
		// A zero ahead, or a digit too few or too many.
		"FIX,0010203,17,11,2026,9", "FIX,010203,017,11,2026,9", "FIX,010203,17,011,2026,9", "FIX,010203,17,11,02026,9", "FIX,010203,17,11,2026,09", "FIX,010203,17,11,2026,00", "FIX,010203,17,11,2026,009",
		"FIX,10203,17,11,2026,9", "FIX,01020,17,11,2026,9", "FIX,0102,17,11,2026,9", "FIX,010203,1,11,2026,9", "FIX,010203,7,11,2026,9", "FIX,010203,17,1,2026,9", "FIX,010203,17,11,26,9", "FIX,010203,17,11,202,9", "FIX,0102030,17,11,2026,9", "FIX,010203,170,11,2026,9", "FIX,010203,17,110,2026,9", "FIX,010203,17,11,20260,9", "FIX,010203,17,11,2026,90", "FIX,010203,17,11,2026,33", "FIX,010203,17,11,2026,320",
		// Numbers that overflow to right ones.
		"FIX,010203,17,11,2026,4294967305", "FIX,010203,17,11,18446744073709553642,9", "FIX,010203,1,1,2026,18446744073709551625",
		// No leap second, and hours and minutes that no clock shows.
		"FIX,120060,17,11,2026,9", "FIX,235860,17,11,2026,9", "FIX,225960,17,11,2026,9", "FIX,005960,17,11,2026,9", "FIX,000060,17,11,2026,9", "FIX,235961,17,11,2026,9", "FIX,235999,17,11,2026,9", "FIX,240000,17,11,2026,9", "FIX,240001,17,11,2026,9", "FIX,236000,17,11,2026,9", "FIX,126000,17,11,2026,9", "FIX,230060,17,11,2026,9", "FIX,990000,17,11,2026,9",
		// Days that are no date.
		"FIX,010203,00,11,2026,9", "FIX,010203,31,11,2026,9", "FIX,010203,32,12,2026,9", "FIX,010203,17,00,2026,9", "FIX,010203,17,13,2026,9", "FIX,010203,29,02,2026,9", "FIX,010203,30,02,2024,9", "FIX,010203,31,12,1979,9", "FIX,010203,01,01,2100,9", "FIX,010203,11,17,2026,9",
	} {
		expectNoFix(t, plainFrame(text))
	}
}

func TestSentencesWithWrongFrames(t *testing.T) {
	for _, f := range someFixes() {
		right := plainSentence(f)
		text := right[1 : len(right)-3]
		for _, s := range []string{text, text + right[len(right)-3:], "$" + text, "$" + text + "*", right[:len(right)-1], right + " ", " " + right, right + "\n", "$" + right, right + right, strings.ToLower(right), "#" + right[1:]} {
			expectNoFix(t, s)
		}
		for sum := range 256 {
			if s := fmt.Sprintf("$%s*%02X", text, sum); s != right {
				expectNoFix(t, s)
			}
			if s := fmt.Sprintf("$%s*%02x", text, sum); s != right {
				expectNoFix(t, s)
			}
		}
	}
	for _, s := range []string{"", "$", "$*00", "$FIX*5F", "\x00", "*"} {
		expectNoFix(t, s)
	}
}

func TestP126FixesAreInFrames(t *testing.T) {
	for _, f := range someFixes() {
		text, ok := impl.ReadFrame(impl.FormatFix(f))
		if !ok || !strings.HasPrefix(text, "FIX") || text != plainText(f) {
			t.Errorf("ReadFrame(FormatFix(%v)) = %q, %v", f, text, ok)
		}
	}
}

func TestCivilFix(t *testing.T) {
	cases := []struct {
		fix  impl.Fix
		want int
	}{
		// The days before EpochDay have no civil time.
		{impl.Fix{Date: date(1980, 1, 1)}, -1},
		{impl.Fix{Date: date(1980, 1, 5)}, -1},
		{impl.Fix{Date: date(1980, 1, 5), Second: 86399}, -1},
		{impl.Fix{Date: date(1980, 1, 5), Second: 86400, Seen: 9}, -1},
		{impl.Fix{Date: date(1980, 1, 6)}, 0},
		{impl.Fix{Date: date(1980, 1, 6), Second: 10}, 10},
		{impl.Fix{Date: date(1980, 1, 6), Second: 86398}, 86398},
		{impl.Fix{Date: date(1980, 1, 6), Second: 86399}, 86399},
		{impl.Fix{Date: date(1980, 1, 6), Second: 86400}, 86399},
		{impl.Fix{Date: date(1980, 1, 7)}, 86400},
		{impl.Fix{Date: date(1980, 1, 7), Second: 5, Seen: 32}, 86405},
		{impl.Fix{Date: date(1980, 4, 15), Seen: 5}, 8640000},
		{impl.Fix{Date: date(2024, 2, 29), Second: 3600}, 1393203600},
		{impl.Fix{Date: date(2099, 12, 31), Second: 86399}, lastTime},
		{impl.Fix{Date: date(2099, 12, 31), Second: 86400}, lastTime},
	}
	for _, c := range cases {
		expectCivilFix(t, c.fix, c.want)
	}
	for _, f := range wrongFixes() {
		expectCivilFix(t, f, -1)
	}
	for _, f := range someFixes() {
		expectCivilFix(t, f, plainCivilFix(f))
	}
}

func TestP127FixesHaveCivilTimes(t *testing.T) {
	for _, f := range fixesOfSatelliteTime() {
		if f.Second == dayLong {
			continue
		}
		expectFixAt(t, impl.CivilFix(f), f.Seen, f)
	}
}

func TestP128LeapSecondsRepeat(t *testing.T) {
	for _, f := range fixesOfSatelliteTime() {
		before := f
		f.Second, before.Second = dayLong, dayLong-1
		if leap, want := impl.CivilFix(f), impl.CivilFix(before); leap != want || leap < 0 {
			t.Errorf("CivilFix(%v) = %d, of the second before %d", f, leap, want)
		}
	}
}

func TestFixAt(t *testing.T) {
	expectFixAt(t, 0, 0, impl.Fix{Date: date(1980, 1, 6)})
	expectFixAt(t, 1, 32, impl.Fix{Date: date(1980, 1, 6), Second: 1, Seen: 32})
	expectFixAt(t, 86399, 4, impl.Fix{Date: date(1980, 1, 6), Second: 86399, Seen: 4})
	expectFixAt(t, 86400, 3, impl.Fix{Date: date(1980, 1, 7), Seen: 3})
	expectFixAt(t, 86405, 4, impl.Fix{Date: date(1980, 1, 7), Second: 5, Seen: 4})
	expectFixAt(t, 8640000, 5, impl.Fix{Date: date(1980, 4, 15), Seen: 5})
	expectFixAt(t, 1393203600, 9, impl.Fix{Date: date(2024, 2, 29), Second: 3600, Seen: 9})
	expectFixAt(t, lastTime-86400, 1, impl.Fix{Date: date(2099, 12, 30), Second: 86399, Seen: 1})
	expectFixAt(t, lastTime, 32, impl.Fix{Date: date(2099, 12, 31), Second: 86399, Seen: 32})
	epoch := time.Date(1980, time.January, 6, 0, 0, 0, 0, time.UTC)
	for _, civil := range someTimes() {
		at := epoch.Add(time.Duration(civil) * time.Second)
		want := impl.Fix{Date: date(at.Year(), int(at.Month()), at.Day()), Second: at.Hour()*3600 + at.Minute()*60 + at.Second(), Seen: civil % (mostSeen + 1)}
		expectFixAt(t, civil, want.Seen, want)
	}
}

func TestFixAtOtherArguments(t *testing.T) {
	for _, civil := range outside(0, lastTime) {
		for _, seen := range []int{0, 1, leastSeen, mostSeen} {
			expectFixAt(t, civil, seen, impl.Fix{})
		}
	}
	for _, seen := range outside(0, mostSeen) {
		for _, civil := range []int{0, 1, dayLong, lastTime} {
			expectFixAt(t, civil, seen, impl.Fix{})
		}
	}
}

func TestP129CivilTimesHaveFixes(t *testing.T) {
	for _, civil := range someTimes() {
		for _, seen := range []int{0, leastSeen, mostSeen} {
			f := impl.FixAt(civil, seen)
			if !impl.ValidFix(f) {
				t.Errorf("FixAt(%d, %d) = %v is not valid", civil, seen, f)
			}
			expectCivilFix(t, f, civil)
		}
	}
}

func TestP130SecondsOfFixesFollowEachOther(t *testing.T) {
	follows := func(civil int) {
		f, next := impl.FixAt(civil, 7), impl.FixAt(civil+1, 7)
		want := impl.Fix{Date: f.Date, Second: f.Second + 1, Seen: 7}
		if f.Second == dayLong-1 {
			want = impl.Fix{Date: impl.DateOf(impl.DayOf(f.Date) + 1), Seen: 7}
		}
		if next != want {
			t.Errorf("FixAt(%d) = %v, a second later %v", civil, f, next)
		}
	}
	for _, civil := range someTimes() {
		if civil < lastTime {
			follows(civil)
		}
	}
	for civil := range 2*dayLong + 10 {
		follows(civil)
	}
	for day := range lastDay - epochDay {
		follows(day*dayLong + dayLong - 1)
	}
}

func TestP137SatelliteTimesAreDaysAndSeconds(t *testing.T) {
	for day := epochDay; day <= lastDay; day++ {
		for _, second := range []int{0, 1, day, dayLong - 1} {
			f := impl.FixAt(impl.GpsTime(day, second), day%(mostSeen+1))
			if impl.DayOf(f.Date) != day || f.Second != second {
				t.Errorf("FixAt second %d of day %d is %v", second, day, f)
			}
		}
	}
}

func TestP159FixesHaveWeekdays(t *testing.T) {
	for _, civil := range someTimes() {
		if civil+weekLong > lastTime {
			continue
		}
		f, later := impl.FixAt(civil, 4), impl.FixAt(civil+weekLong, 4)
		weekday := impl.WeekdayOf(impl.DayOf(f.Date))
		if got := impl.WeekdayOf(impl.DayOf(later.Date)); got != weekday || got < 0 || f.Date == later.Date || f.Second != later.Second {
			t.Errorf("%v is on day %d of the week, and a week later %v on day %d", f, weekday, later, got)
		}
	}
}

func TestP170SatellitesAreOnlyCounted(t *testing.T) {
	for _, civil := range someTimes() {
		f := impl.FixAt(civil, 0)
		for seen := range mostSeen + 1 {
			expectFixAt(t, civil, seen, impl.Fix{Date: f.Date, Second: f.Second, Seen: seen})
		}
	}
}

// date returns the date with a year, a month and a day, valid or not.
func date(year int, month int, day int) impl.Date {
	return impl.Date{Year: year, Month: month, Day: day}
}

// expectFix checks the sentence of a fix, both ways.
func expectFix(t *testing.T, f impl.Fix, want string) {
	t.Helper()
	if got := impl.FormatFix(f); got != want {
		t.Errorf("FormatFix(%v) = %q, want %q", f, got, want)
	}
	if got, ok := impl.ParseFix(want); got != f || !ok {
		t.Errorf("ParseFix(%q) = %v, %v, want %v", want, got, ok, f)
	}
}

// expectNoFix checks that a text is no sentence of a fix.
func expectNoFix(t *testing.T, s string) {
	t.Helper()
	if got, ok := impl.ParseFix(s); got != (impl.Fix{}) || ok {
		t.Errorf("ParseFix(%q) = %v, %v", s, got, ok)
	}
}

// expectRead checks whether a text is taken as the sentence of a fix, of which
// one, and that this fix has no other sentence.
func expectRead(t *testing.T, s string) {
	t.Helper()
	want, wanted := plainParse(s)
	got, ok := impl.ParseFix(s)
	if got != want || ok != wanted {
		t.Errorf("ParseFix(%q) = %v, %v, want %v, %v", s, got, ok, want, wanted)
	}
	if ok && impl.FormatFix(got) != s {
		t.Errorf("FormatFix(ParseFix(%q)) = %q", s, impl.FormatFix(got))
	}
}

// expectCivilFix checks the civil time of a fix.
func expectCivilFix(t *testing.T, f impl.Fix, want int) {
	t.Helper()
	if got := impl.CivilFix(f); got != want {
		t.Errorf("CivilFix(%v) = %d, want %d", f, got, want)
	}
}

// expectFixAt checks the fix at a civil time.
func expectFixAt(t *testing.T, civil int, seen int, want impl.Fix) {
	t.Helper()
	if got := impl.FixAt(civil, seen); got != want {
		t.Errorf("FixAt(%d, %d) = %v, want %v", civil, seen, got, want)
	}
}

// plainText returns the text of a fix as the document says it.
func plainText(f impl.Fix) string {
	hour, minute, second := f.Second/3600, f.Second/60%60, f.Second%60
	if f.Second == 86400 {
		hour, minute, second = 23, 59, 60
	}
	return fmt.Sprintf("FIX,%02d%02d%02d,%02d,%02d,%d,%d", hour, minute, second, f.Date.Day, f.Date.Month, f.Date.Year, f.Seen)
}

// plainSentence returns the sentence of a fix as the document says it.
func plainSentence(f impl.Fix) string {
	return plainFrame(plainText(f))
}

// fixPattern is the form of a sentence of a fix.
var fixPattern = regexp.MustCompile(`^\$FIX,([01][0-9]|2[0-3])([0-5][0-9])([0-5][0-9]|60),([0-9]{2}),([0-9]{2}),([0-9]{4}),([0-9]|[12][0-9]|3[0-2])\*[0-9A-F]{2}$`)

// plainParse returns the fix of a sentence as the document says it.
func plainParse(s string) (impl.Fix, bool) {
	parts := fixPattern.FindStringSubmatch(s)
	if parts == nil || plainFrame(s[1:len(s)-3]) != s {
		return impl.Fix{}, false
	}
	var n [8]int
	for i := 1; i < len(parts); i++ {
		n[i], _ = strconv.Atoi(parts[i])
	}
	at := time.Date(n[6], time.Month(n[5]), n[4], 0, 0, 0, 0, time.UTC)
	isDate := at.Year() == n[6] && int(at.Month()) == n[5] && at.Day() == n[4]
	isClock := n[3] < 60 || n[1] == 23 && n[2] == 59
	if !isDate || !isClock || n[6] < 1980 || n[6] > 2099 {
		return impl.Fix{}, false
	}
	return impl.Fix{Date: date(n[6], n[5], n[4]), Second: n[1]*3600 + n[2]*60 + n[3], Seen: n[7]}, true
}

// plainCivilFix returns the civil time of a valid fix, as the standard library
// knows it.
func plainCivilFix(f impl.Fix) int {
	epoch := time.Date(1980, time.January, 6, 0, 0, 0, 0, time.UTC)
	at := time.Date(f.Date.Year, time.Month(f.Date.Month), f.Date.Day, 0, 0, 0, 0, time.UTC)
	if at.Before(epoch) {
		return -1
	}
	return int(at.Unix()-epoch.Unix()) + min(f.Second, 86399)
}

// someFixes returns valid fixes: combinations of edge values, and thrown ones.
func someFixes() []impl.Fix {
	dates := []impl.Date{date(1980, 1, 1), date(1980, 1, 5), date(1980, 1, 6), date(1980, 2, 29), date(1999, 12, 31), date(2000, 1, 1), date(2000, 2, 29), date(2016, 12, 31), date(2023, 2, 28), date(2024, 10, 9), date(2096, 2, 29), date(2099, 12, 31)}
	seconds := []int{0, 1, 59, 60, 3599, 3600, 45296, 86339, 86340, dayLong - 2, dayLong - 1, dayLong}
	var fixes []impl.Fix
	for n, second := range seconds {
		for k, d := range dates {
			for _, seen := range []int{0, leastSeen - 1, leastSeen, (n + k) % 33, 9, 10, mostSeen} {
				fixes = append(fixes, impl.Fix{Date: d, Second: second, Seen: seen})
			}
		}
	}
	days := calendar()
	var dice dice
	for range 500 {
		fixes = append(fixes, impl.Fix{Date: days[dice.throw(len(days))], Second: dice.throw(dayLong + 1), Seen: dice.throw(mostSeen + 1)})
	}
	// Those in front are of all kinds, so that some of them will do.
	for n := range fixes {
		k := n * 97 % len(fixes)
		fixes[n], fixes[k] = fixes[k], fixes[n]
	}
	return fixes
}

// fixesOfSatelliteTime returns valid fixes that are not before EpochDay.
func fixesOfSatelliteTime() []impl.Fix {
	var fixes []impl.Fix
	for _, f := range someFixes() {
		if plainCivilFix(f) >= 0 {
			fixes = append(fixes, f)
		}
	}
	return fixes
}

// wrongFixes returns fixes that are not valid, each for one reason.
func wrongFixes() []impl.Fix {
	fixes := []impl.Fix{{}, {Second: 10, Seen: 5}}
	right := impl.Fix{Date: date(2024, 2, 29), Second: 4321, Seen: 7}
	for _, second := range outside(0, dayLong) {
		wrong := right
		wrong.Second = second
		fixes = append(fixes, wrong)
	}
	for _, seen := range outside(0, mostSeen) {
		wrong := right
		wrong.Seen = seen
		fixes = append(fixes, wrong)
	}
	for _, year := range append(outside(firstYear, lastYear), 0, 80, 2025) {
		fixes = append(fixes, impl.Fix{Date: date(year, 2, 29), Second: 4321, Seen: 7})
	}
	for _, month := range append(outside(1, 12), 0) {
		fixes = append(fixes, impl.Fix{Date: date(2024, month, 1), Second: 4321, Seen: 7})
	}
	for _, day := range append(outside(1, 29), 0, 30, 31) {
		fixes = append(fixes, impl.Fix{Date: date(2024, 2, day), Second: 4321, Seen: 7})
	}
	for _, d := range []impl.Date{date(1979, 12, 31), date(2100, 1, 1), date(2026, 2, 29), date(2026, 11, 31), date(2026, 12, 32), date(2026, 0, 17), date(2026, 13, 17)} {
		for _, second := range []int{0, dayLong} {
			fixes = append(fixes, impl.Fix{Date: d, Second: second, Seen: 7})
		}
	}
	return fixes
}

// fixTexts returns texts of which some are those of fixes and others almost.
func fixTexts() []string {
	var texts []string
	for _, start := range []string{"FIX,", "fix,", "FIX", "FIX,,", ""} {
		for _, clock := range []string{"000000", "010203", "235959", "235960", "235961", "240000", "120060", "126000", "10203", "0010203", "01 203", "+10203", ""} {
			for _, days := range []string{"01,01,1980", "17,11,2026", "29,02,2024", "29,02,2023", "31,12,2099", "01,01,2100", "31,12,1979", "1,1,2000", "00,01,2000", "32,01,2000", "01,13,2000", "17,11,26", "17112026", "17,11"} {
				for _, seen := range []string{",0", ",4", ",9", ",10", ",32", ",33", ",04", ",00", ",", "", ",9,", ",-1", ",x", ",100"} {
					texts = append(texts, start+clock+","+days+seen)
				}
			}
		}
	}
	return texts
}
