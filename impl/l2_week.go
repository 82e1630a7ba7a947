package impl

// EpochDay is the first day of satellite time.
const EpochDay = 5

// DaySeconds is the number of seconds of a day.
const DaySeconds = 86400

// WeekSeconds is the number of seconds of a week.
const WeekSeconds = 604800

// WeekCycle is the number of different short weeks.
const WeekCycle = 1024

// MaxWeek is the largest week.
const MaxWeek = 6000

// MaxTime is the largest satellite time.
const MaxTime = 3786479999

// satelliteTime is a number of seconds since the beginning of day EpochDay.
type satelliteTime int

// weekNumber is a number of weeks since the beginning of day EpochDay.
type weekNumber int

// shortNumber is a week number modulo WeekCycle.
type shortNumber int

// GpsTime returns the satellite time of a day and a second.
func GpsTime(day int, second int) int {
	if !inRange(day, EpochDay, MaxDay) || !inRange(second, 0, DaySeconds-1) {
		return -1
	}
	return (day-EpochDay)*DaySeconds + second
}

// WeekOf returns the week of a satellite time.
func WeekOf(t int) int {
	if !inRange(t, 0, MaxTime) {
		return -1
	}
	return int(satelliteTime(t).week())
}

// SecondOfWeek returns the second of the week of a satellite time.
func SecondOfWeek(t int) int {
	if !inRange(t, 0, MaxTime) {
		return -1
	}
	return satelliteTime(t).second()
}

// ShortWeek returns the week of a satellite time as satellites send it.
func ShortWeek(t int) int {
	if !inRange(t, 0, MaxTime) {
		return -1
	}
	return int(satelliteTime(t).week().short())
}

// FullWeek returns the week that a short week stands for.
func FullWeek(short int, from int) int {
	if !inRange(short, 0, WeekCycle-1) || !inRange(from, 0, MaxWeek) {
		return -1
	}
	return int(weekNumber(from).next(shortNumber(short)))
}

// TimeAt returns the satellite time of a short week and a second.
func TimeAt(short int, second int, from int) int {
	week := FullWeek(short, from)
	if week < 0 || !inRange(second, 0, WeekSeconds-1) {
		return -1
	}
	t := weekNumber(week).start() + satelliteTime(second)
	if t > MaxTime {
		return -1
	}
	return int(t)
}

// week returns the week of a time that is not negative.
func (t satelliteTime) week() weekNumber {
	return weekNumber(t / WeekSeconds)
}

// second returns the seconds from the beginning of its week to a time that is
// not negative.
func (t satelliteTime) second() int {
	return int(t % WeekSeconds)
}

// start returns the time at which a week begins.
func (w weekNumber) start() satelliteTime {
	return satelliteTime(w) * WeekSeconds
}

// short returns the short week of a week that is not negative.
func (w weekNumber) short() shortNumber {
	return shortNumber(w % WeekCycle)
}

// next returns the first week from w on that has a short week.
func (w weekNumber) next(s shortNumber) weekNumber {
	return w + w.short().weeksTo(s)
}

// weeksTo returns how many weeks behind a short week another one comes.
func (s shortNumber) weeksTo(later shortNumber) weekNumber {
	// The cycle is added because % of a negative number is negative.
	return weekNumber((later - s + WeekCycle) % WeekCycle)
}
