package impl

// FirstYear is the first year; its first day is a Tuesday.
const FirstYear = 1980

// LastYear is the last year.
const LastYear = 2099

// MaxDay is the number of the last day.
const MaxDay = 43829

// The calendar repeats after an era of 400 years. Eras and their years are
// taken to begin on 1 March, so that a leap day is the last day of its year.
const (
	eraYears = 400
	eraDays  = 146097
	// daysBeforeFirst is the number of days from 1 March of year 0 to day 0.
	daysBeforeFirst = 723120
)

// Date is a day of a year.
type Date struct {
	Year  int
	Month int
	Day   int
}

// IsLeapYear reports whether a year has 366 days.
func IsLeapYear(year int) bool {
	if !inRange(year, FirstYear, LastYear) {
		return false
	}
	return year%4 == 0 && year%100 != 0 || year%400 == 0
}

// MonthDays returns the number of days of a month.
func MonthDays(year int, month int) int {
	if !inRange(year, FirstYear, LastYear) || !inRange(month, 1, 12) {
		return -1
	}
	switch month {
	case 2:
		if IsLeapYear(year) {
			return 29
		}
		return 28
	case 4, 6, 9, 11:
		return 30
	}
	return 31
}

// DayOf returns the number of a date.
func DayOf(d Date) int {
	// MonthDays is -1 for a wrong year or month, and no day is in 1..-1.
	if !inRange(d.Day, 1, MonthDays(d.Year, d.Month)) {
		return -1
	}
	year, month := marchYear(d.Year, d.Month)
	days := year/eraYears*eraDays + daysBeforeYear(year%eraYears)
	return days + daysBeforeMonth(month) + d.Day - 1 - daysBeforeFirst
}

// DateOf returns the date of a day.
func DateOf(day int) Date {
	if !inRange(day, 0, MaxDay) {
		return Date{}
	}
	days := day + daysBeforeFirst
	dayOfEra := days % eraDays
	yearOfEra := yearOfEraAt(dayOfEra)
	dayOfYear := dayOfEra - daysBeforeYear(yearOfEra)
	month := monthAt(dayOfYear)
	d := Date{
		Year:  days/eraDays*eraYears + yearOfEra,
		Month: month + 3,
		Day:   dayOfYear - daysBeforeMonth(month) + 1,
	}
	if d.Month > 12 {
		d.Year++
		d.Month -= 12
	}
	return d
}

// WeekdayOf returns the day of the week of a day.
func WeekdayOf(day int) int {
	if !inRange(day, 0, MaxDay) {
		return -1
	}
	// Day 0 is a Tuesday.
	return (day + 2) % 7
}

// inRange reports whether a number is in low..high.
func inRange(n int, low int, high int) bool {
	return low <= n && n <= high
}

// marchYear returns the year that begins in March and has a month, and the
// number of the month in it, counted from 0.
func marchYear(year int, month int) (int, int) {
	if month < 3 {
		return year - 1, month + 9
	}
	return year, month - 3
}

// daysBeforeYear returns the number of days of an era before one of its years.
func daysBeforeYear(yearOfEra int) int {
	return 365*yearOfEra + yearOfEra/4 - yearOfEra/100
}

// yearOfEraAt returns the year of an era that has one of the days of the era.
// The leap days before the day are taken away, so that 365 divides evenly.
func yearOfEraAt(dayOfEra int) int {
	const (
		fourYears    = 4*365 + 1
		hundredYears = 25*fourYears - 1
	)
	leapDays := dayOfEra/(fourYears-1) - dayOfEra/hundredYears + dayOfEra/(eraDays-1)
	return (dayOfEra - leapDays) / 365
}

// daysBeforeMonth returns the number of days of a year that begins in March
// before a month. Five months from March, or from August, on have 153 days.
func daysBeforeMonth(month int) int {
	return (153*month + 2) / 5
}

// monthAt returns the month of a year that begins in March that has a day.
func monthAt(dayOfYear int) int {
	return (5*dayOfYear + 2) / 153
}
