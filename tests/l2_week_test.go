package tests

import (
	"testing"

	"loop.example/satelliteclock/impl"
)

func TestLimitsOfWeeks(t *testing.T) {
	if impl.EpochDay != epochDay || impl.DaySeconds != dayLong || impl.WeekSeconds != weekLong || impl.WeekCycle != cycle || impl.MaxWeek != lastWeek || impl.MaxTime != lastTime {
		t.Error("a limit of chapter 2 is not that of the document")
	}
}

func TestP9SatelliteTimeBeginsOnASunday(t *testing.T) {
	if impl.WeekdayOf(epochDay) != 0 {
		t.Errorf("WeekdayOf(EpochDay) = %d", impl.WeekdayOf(epochDay))
	}
	for day := epochDay; day <= lastDay; day++ {
		begins := impl.SecondOfWeek(impl.GpsTime(day, 0)) == 0
		if begins != (impl.WeekdayOf(day) == 0) {
			t.Fatalf("day %d is weekday %d; a week begins: %v", day, impl.WeekdayOf(day), begins)
		}
	}
}

func TestP10SatelliteTimeCountsSeconds(t *testing.T) {
	if impl.GpsTime(epochDay, 0) != 0 || impl.GpsTime(lastDay, dayLong-1) != lastTime {
		t.Error("the first or the last second")
	}
	for day := epochDay; day < lastDay; day++ {
		for _, second := range []int{0, 1, 4321, dayLong - 1} {
			if impl.GpsTime(day+1, second) != impl.GpsTime(day, second)+dayLong {
				t.Fatalf("second %d of day %d", second, day+1)
			}
		}
		if impl.GpsTime(day+1, 0) != impl.GpsTime(day, dayLong-1)+1 {
			t.Fatalf("the end of day %d", day)
		}
	}
	for _, day := range []int{epochDay, 59, 20000, lastDay} {
		for second := 0; second < dayLong-1; second++ {
			if impl.GpsTime(day, second+1) != impl.GpsTime(day, second)+1 {
				t.Fatalf("second %d of day %d", second+1, day)
			}
		}
	}
}

func TestGpsTimeOfOtherArguments(t *testing.T) {
	for _, day := range append(outside(epochDay, lastDay), 0, 1, 2, 3, 4) {
		for _, second := range []int{0, 1, dayLong - 1} {
			if got := impl.GpsTime(day, second); got != -1 {
				t.Errorf("GpsTime(%d, %d) = %d", day, second, got)
			}
		}
	}
	for _, second := range outside(0, dayLong-1) {
		for _, day := range []int{epochDay, 6, lastDay - 1, lastDay} {
			if got := impl.GpsTime(day, second); got != -1 {
				t.Errorf("GpsTime(%d, %d) = %d", day, second, got)
			}
		}
	}
}

func TestP11DaysAreInWeeks(t *testing.T) {
	for day := epochDay; day <= lastDay; day++ {
		for _, second := range []int{0, 1, 4321, dayLong - 1} {
			at := impl.GpsTime(day, second)
			if got := impl.WeekOf(at); got != (day-epochDay)/7 {
				t.Fatalf("WeekOf second %d of day %d = %d", second, day, got)
			}
			if got := impl.SecondOfWeek(at); got != (day-epochDay)%7*dayLong+second {
				t.Fatalf("SecondOfWeek second %d of day %d = %d", second, day, got)
			}
		}
	}
}

func TestP12TimesAreWeeksAndSeconds(t *testing.T) {
	for _, at := range someTimes() {
		week, second := impl.WeekOf(at), impl.SecondOfWeek(at)
		if week < 0 || second < 0 || second >= weekLong || week*weekLong+second != at {
			t.Fatalf("time %d: week %d, second %d", at, week, second)
		}
	}
	if impl.WeekOf(lastTime) != 6260 || impl.SecondOfWeek(lastTime) != 431999 {
		t.Error("the last time")
	}
}

func TestP13WeeksBeginAnew(t *testing.T) {
	if impl.SecondOfWeek(0) != 0 {
		t.Errorf("SecondOfWeek(0) = %d", impl.SecondOfWeek(0))
	}
	for _, at := range someTimes() {
		second := impl.SecondOfWeek(at)
		if at+weekLong <= lastTime && impl.SecondOfWeek(at+weekLong) != second {
			t.Fatalf("SecondOfWeek(%d) = %d, want %d", at+weekLong, impl.SecondOfWeek(at+weekLong), second)
		}
		next := second + 1
		if second == weekLong-1 {
			next = 0
		}
		if at < lastTime && impl.SecondOfWeek(at+1) != next {
			t.Fatalf("SecondOfWeek(%d) = %d, want %d", at+1, impl.SecondOfWeek(at+1), next)
		}
	}
}

func TestP14ShortWeeksRollOver(t *testing.T) {
	for week := 0; week*weekLong <= lastTime; week++ {
		short := impl.ShortWeek(week * weekLong)
		if short != week%cycle {
			t.Fatalf("ShortWeek of week %d = %d", week, short)
		}
		want := week
		if week > lastWeek {
			want = -1
		}
		if got := impl.FullWeek(short, week); got != want {
			t.Fatalf("FullWeek(%d, %d) = %d, want %d", short, week, got, want)
		}
	}
	for _, at := range someTimes() {
		if got := impl.ShortWeek(at); got != at/weekLong%cycle {
			t.Fatalf("ShortWeek(%d) = %d", at, got)
		}
	}
}

func TestTimesOutOfRange(t *testing.T) {
	for _, at := range append(outside(0, lastTime), -weekLong, lastTime+weekLong) {
		if impl.WeekOf(at) != -1 || impl.SecondOfWeek(at) != -1 || impl.ShortWeek(at) != -1 {
			t.Errorf("time %d: week %d, second %d, short week %d", at, impl.WeekOf(at), impl.SecondOfWeek(at), impl.ShortWeek(at))
		}
	}
}

func TestP15FullWeeksAreNear(t *testing.T) {
	for _, from := range someWeeks() {
		for short := 0; short < cycle; short++ {
			week := impl.FullWeek(short, from)
			if week < from || week >= from+cycle || week%cycle != short {
				t.Fatalf("FullWeek(%d, %d) = %d", short, from, week)
			}
		}
	}
}

func TestP16LaterWeeksBeginLater(t *testing.T) {
	for _, from := range someWeeks() {
		if from == lastWeek {
			continue
		}
		for short := 0; short < cycle; short++ {
			want := impl.FullWeek(short, from)
			if want == from {
				want += cycle
			}
			if got := impl.FullWeek(short, from+1); got != want {
				t.Fatalf("FullWeek(%d, %d) = %d, want %d", short, from+1, got, want)
			}
		}
	}
}

func TestFullWeekOfOtherArguments(t *testing.T) {
	for _, short := range outside(0, cycle-1) {
		for _, from := range []int{0, 1, cycle, lastWeek} {
			if got := impl.FullWeek(short, from); got != -1 {
				t.Errorf("FullWeek(%d, %d) = %d", short, from, got)
			}
		}
	}
	for _, from := range outside(0, lastWeek) {
		for _, short := range []int{0, 1, lastWeek % cycle, cycle - 1} {
			if got := impl.FullWeek(short, from); got != -1 {
				t.Errorf("FullWeek(%d, %d) = %d", short, from, got)
			}
		}
	}
}

func TestP17TimesCanBeSentShort(t *testing.T) {
	for _, at := range someTimes() {
		week := impl.WeekOf(at)
		want := at
		if week > lastWeek {
			want = -1
		}
		if got := impl.TimeAt(impl.ShortWeek(at), impl.SecondOfWeek(at), week); got != want {
			t.Fatalf("TimeAt of %d = %d, want %d", at, got, want)
		}
		// A receiver may know any of the WeekCycle weeks up to that of the time.
		for _, from := range []int{week - 1, week - 500, week - cycle + 1} {
			if from < 0 || from > lastWeek {
				continue
			}
			if got := impl.TimeAt(impl.ShortWeek(at), impl.SecondOfWeek(at), from); got != at {
				t.Fatalf("TimeAt of %d from week %d = %d", at, from, got)
			}
		}
	}
}

func TestP18TimesHaveWeeks(t *testing.T) {
	for _, from := range someWeeks() {
		for _, short := range []int{0, 1, 115, 116, 117, 511, 880, cycle - 2, cycle - 1} {
			for _, second := range []int{0, 1, 431999, 432000, weekLong - 1} {
				at := impl.TimeAt(short, second, from)
				week := impl.FullWeek(short, from)
				if week*weekLong+second > lastTime {
					if at != -1 {
						t.Fatalf("TimeAt(%d, %d, %d) = %d", short, second, from, at)
					}
					continue
				}
				if impl.WeekOf(at) != week || impl.SecondOfWeek(at) != second {
					t.Fatalf("TimeAt(%d, %d, %d) = %d", short, second, from, at)
				}
			}
		}
	}
}

func TestTimeAtTheLastTime(t *testing.T) {
	if got := impl.TimeAt(116, 431999, lastWeek); got != lastTime {
		t.Errorf("the last time is %d", got)
	}
	if got := impl.TimeAt(116, 432000, lastWeek); got != -1 {
		t.Errorf("a second behind the last time is %d", got)
	}
	if got := impl.TimeAt(117, 0, lastWeek); got != -1 {
		t.Errorf("the week behind the last time begins at %d", got)
	}
}

func TestTimeAtOfOtherArguments(t *testing.T) {
	for _, short := range outside(0, cycle-1) {
		if got := impl.TimeAt(short, 0, 0); got != -1 {
			t.Errorf("TimeAt(%d, 0, 0) = %d", short, got)
		}
	}
	for _, second := range outside(0, weekLong-1) {
		for _, from := range []int{0, 1000, lastWeek} {
			if got := impl.TimeAt(1, second, from); got != -1 {
				t.Errorf("TimeAt(1, %d, %d) = %d", second, from, got)
			}
		}
	}
	for _, from := range outside(0, lastWeek) {
		for _, short := range []int{0, 1, 115, cycle - 1} {
			if got := impl.TimeAt(short, 0, from); got != -1 {
				t.Errorf("TimeAt(%d, 0, %d) = %d", short, from, got)
			}
		}
	}
}

func TestP138WeeksFollowEachOther(t *testing.T) {
	for _, at := range someTimes() {
		if at+weekLong > lastTime {
			continue
		}
		if impl.WeekOf(at+weekLong) != impl.WeekOf(at)+1 {
			t.Fatalf("WeekOf(%d) = %d", at+weekLong, impl.WeekOf(at+weekLong))
		}
		want := impl.ShortWeek(at) + 1
		if want == cycle {
			want = 0
		}
		if got := impl.ShortWeek(at + weekLong); got != want {
			t.Fatalf("ShortWeek(%d) = %d, want %d", at+weekLong, got, want)
		}
	}
}

func TestP161TimesOfShortWeeksFollowEachOther(t *testing.T) {
	for _, from := range someWeeks() {
		for _, short := range []int{0, 1, from % cycle, (from + cycle - 1) % cycle, 116, cycle - 1} {
			for _, second := range []int{0, 1, dayLong - 1, dayLong, 431998, weekLong - 3, weekLong - 2} {
				at, next := impl.TimeAt(short, second, from), impl.TimeAt(short, second+1, from)
				if next >= 0 && next != at+1 || at >= 0 && at < lastTime && next < 0 {
					t.Fatalf("TimeAt second %d of short week %d from %d: %d, then %d", second, short, from, at, next)
				}
			}
		}
	}
}
