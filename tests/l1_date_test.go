package tests

import (
	"testing"
	"time"

	"loop.example/satelliteclock/impl"
)

func TestLimitsOfDates(t *testing.T) {
	if impl.FirstYear != firstYear || impl.LastYear != lastYear || impl.MaxDay != lastDay {
		t.Error("a limit of chapter 1 is not that of the document")
	}
}

func TestP1LeapYearsHave366Days(t *testing.T) {
	for year := firstYear; year <= lastYear; year++ {
		sum := 0
		for month := 1; month <= 12; month++ {
			sum += impl.MonthDays(year, month)
		}
		want := 365
		if hasLeapDay(year) {
			want = 366
		}
		if sum != want || impl.IsLeapYear(year) != (want == 366) {
			t.Errorf("year %d: %d days, IsLeapYear %v", year, sum, impl.IsLeapYear(year))
		}
	}
}

func TestP2LeapYearsAreFourYearsApart(t *testing.T) {
	if !impl.IsLeapYear(1980) || !impl.IsLeapYear(2000) || !impl.IsLeapYear(2096) {
		t.Error("1980, 2000 or 2096 is no leap year")
	}
	for year := firstYear; year <= lastYear-4; year++ {
		if impl.IsLeapYear(year) != impl.IsLeapYear(year+4) {
			t.Errorf("only one of %d and %d is a leap year", year, year+4)
		}
	}
	leaps := 0
	for year := firstYear; year < firstYear+4; year++ {
		if impl.IsLeapYear(year) {
			leaps++
		}
	}
	if leaps != 1 {
		t.Errorf("%d of the first four years are leap years", leaps)
	}
}

func TestIsLeapYearOfOtherYears(t *testing.T) {
	for _, year := range append(outside(firstYear, lastYear), 0, -4, 4, 400, 1600, 1976, 2100, 2104, 2400) {
		if impl.IsLeapYear(year) {
			t.Errorf("IsLeapYear(%d)", year)
		}
	}
}

func TestP3MonthsAreShortOrLong(t *testing.T) {
	days := []int{31, 28, 31, 30, 31, 30, 31, 31, 30, 31, 30, 31}
	for year := firstYear; year <= lastYear; year++ {
		for month := 1; month <= 12; month++ {
			want := days[month-1]
			if month == 2 && hasLeapDay(year) {
				want = 29
			}
			if got := impl.MonthDays(year, month); got != want {
				t.Errorf("MonthDays(%d, %d) = %d, want %d", year, month, got, want)
			}
		}
	}
}

func TestMonthDaysOfOtherMonths(t *testing.T) {
	for _, year := range outside(firstYear, lastYear) {
		for month := 0; month <= 13; month++ {
			if got := impl.MonthDays(year, month); got != -1 {
				t.Errorf("MonthDays(%d, %d) = %d", year, month, got)
			}
		}
	}
	for _, month := range outside(1, 12) {
		for _, year := range []int{firstYear, 2000, 2023, lastYear} {
			if got := impl.MonthDays(year, month); got != -1 {
				t.Errorf("MonthDays(%d, %d) = %d", year, month, got)
			}
		}
	}
}

func TestP4DaysHaveDates(t *testing.T) {
	for day, date := range calendar() {
		if got := impl.DayOf(date); got != day {
			t.Fatalf("DayOf(%v) = %d, want %d", date, got, day)
		}
		if got := impl.DateOf(impl.DayOf(date)); got != date {
			t.Fatalf("DateOf(DayOf(%v)) = %v", date, got)
		}
	}
}

func TestP5DaysFollowEachOther(t *testing.T) {
	for year := firstYear; year <= lastYear; year++ {
		for month := 1; month <= 12; month++ {
			last := impl.MonthDays(year, month)
			for day := 1; day <= last; day++ {
				date := impl.Date{Year: year, Month: month, Day: day}
				next := impl.Date{Year: year, Month: month, Day: day + 1}
				if day == last && month == 12 {
					next = impl.Date{Year: year + 1, Month: 1, Day: 1}
				} else if day == last {
					next = impl.Date{Year: year, Month: month + 1, Day: 1}
				}
				want := impl.DayOf(date) + 1
				if year == lastYear && month == 12 && day == last {
					want = -1
				}
				if got := impl.DayOf(next); got != want {
					t.Fatalf("DayOf(%v) = %d, want %d", next, got, want)
				}
			}
		}
	}
	if first := impl.DayOf(impl.Date{Year: firstYear, Month: 1, Day: 1}); first != 0 {
		t.Errorf("the first day is %d", first)
	}
}

func TestP6DatesHaveDays(t *testing.T) {
	dates := calendar()
	if len(dates) != lastDay+1 {
		t.Fatalf("%d dates", len(dates))
	}
	for day := 0; day <= lastDay; day++ {
		date := impl.DateOf(day)
		if date != dates[day] {
			t.Fatalf("DateOf(%d) = %v, want %v", day, date, dates[day])
		}
		if got := impl.DayOf(date); got != day {
			t.Fatalf("DayOf(DateOf(%d)) = %d", day, got)
		}
	}
}

func TestDayOfOtherDates(t *testing.T) {
	dates := []impl.Date{{}, {Year: 2023, Month: 2, Day: 29}, {Year: 2024, Month: 2, Day: 30}, {Year: 2024, Month: 4, Day: 31}, {Year: 1979, Month: 12, Day: 31}, {Year: 2100, Month: 1, Day: 1}}
	for _, year := range append(outside(firstYear, lastYear), 0) {
		dates = append(dates, impl.Date{Year: year, Month: 1, Day: 1}, impl.Date{Year: year, Month: 12, Day: 31})
	}
	for _, month := range outside(1, 12) {
		dates = append(dates, impl.Date{Year: firstYear, Month: month, Day: 1}, impl.Date{Year: lastYear, Month: month, Day: 28})
	}
	for _, year := range []int{firstYear, 2000, 2023, 2024, lastYear} {
		for month := 1; month <= 12; month++ {
			last := time.Date(year, time.Month(month)+1, 0, 0, 0, 0, 0, time.UTC).Day()
			for _, day := range outside(1, last) {
				dates = append(dates, impl.Date{Year: year, Month: month, Day: day})
			}
		}
	}
	for _, date := range dates {
		if got := impl.DayOf(date); got != -1 {
			t.Errorf("DayOf(%v) = %d", date, got)
		}
	}
}

func TestDateOfOtherDays(t *testing.T) {
	for _, day := range outside(0, lastDay) {
		if got := impl.DateOf(day); got != (impl.Date{}) {
			t.Errorf("DateOf(%d) = %v", day, got)
		}
	}
}

func TestP7YearsHave365Or366Days(t *testing.T) {
	for day := 0; day+366 <= lastDay; day++ {
		from, to := impl.DateOf(day), impl.DateOf(day+366)
		next := to.Year == from.Year+1
		behind := to == impl.Date{Year: from.Year + 2, Month: 1, Day: 1}
		if !next && !behind {
			t.Fatalf("366 days behind %v is %v", from, to)
		}
	}
	for year := firstYear; year < lastYear; year++ {
		days := impl.DayOf(impl.Date{Year: year + 1, Month: 1, Day: 1}) - impl.DayOf(impl.Date{Year: year, Month: 1, Day: 1})
		if days != 365 && days != 366 || (days == 366) != impl.IsLeapYear(year) {
			t.Errorf("%d days from the beginning of %d to the next one", days, year)
		}
	}
}

func TestP8WeeksHaveSevenDays(t *testing.T) {
	for day := 0; day <= lastDay; day++ {
		weekday := impl.WeekdayOf(day)
		if weekday < 0 || weekday > 6 {
			t.Fatalf("WeekdayOf(%d) = %d", day, weekday)
		}
		if day+7 <= lastDay && impl.WeekdayOf(day+7) != weekday {
			t.Fatalf("WeekdayOf(%d) = %d, want %d", day+7, impl.WeekdayOf(day+7), weekday)
		}
		if day < lastDay && impl.WeekdayOf(day+1) != (weekday+1)%7 {
			t.Fatalf("WeekdayOf(%d) = %d behind %d", day+1, impl.WeekdayOf(day+1), weekday)
		}
	}
}

func TestWeekdaysOfTheStandardLibrary(t *testing.T) {
	if impl.WeekdayOf(0) != 2 || impl.WeekdayOf(lastDay) != 4 {
		t.Error("day 0 is no Tuesday, or the last day no Thursday")
	}
	for day, date := range calendar() {
		want := int(time.Date(date.Year, time.Month(date.Month), date.Day, 0, 0, 0, 0, time.UTC).Weekday())
		if got := impl.WeekdayOf(day); got != want {
			t.Fatalf("WeekdayOf(%d) = %d, want %d", day, got, want)
		}
	}
}

func TestWeekdayOfOtherDays(t *testing.T) {
	for _, day := range outside(0, lastDay) {
		if got := impl.WeekdayOf(day); got != -1 {
			t.Errorf("WeekdayOf(%d) = %d", day, got)
		}
	}
}

func TestP135MonthsAreDays(t *testing.T) {
	for _, date := range calendar() {
		first := impl.Date{Year: date.Year, Month: date.Month, Day: 1}
		if got := impl.DayOf(first) + date.Day - 1; got != impl.DayOf(date) {
			t.Fatalf("%v: %d by the first day of the month, DayOf %d", date, got, impl.DayOf(date))
		}
	}
}

func TestP136LaterDaysHaveLaterDates(t *testing.T) {
	for _, days := range []int{1, 28, 29, 30, 31, 365, 366, 1461, 36524, lastDay} {
		for day := 0; day+days <= lastDay; day++ {
			a, b := impl.DateOf(day), impl.DateOf(day+days)
			later := b.Year > a.Year || b.Year == a.Year && b.Month > a.Month || b.Year == a.Year && b.Month == a.Month && b.Day > a.Day
			if !later {
				t.Fatalf("%v is not before %v", a, b)
			}
		}
	}
}

func TestP160DatesHaveWeekdays(t *testing.T) {
	for _, date := range calendar() {
		later := impl.Date{Year: date.Year + 28, Month: date.Month, Day: date.Day}
		if later.Year > lastYear {
			break
		}
		a, b := impl.WeekdayOf(impl.DayOf(date)), impl.WeekdayOf(impl.DayOf(later))
		if a < 0 || a != b {
			t.Fatalf("%v has weekday %d, %v has %d", date, a, later, b)
		}
	}
}
