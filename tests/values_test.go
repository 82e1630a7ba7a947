package tests

import (
	"math"
	"time"

	"loop.example/satelliteclock/impl"
)

// The limits of the document as numbers, so that a wrong constant is found.
const (
	firstYear = 1980
	lastYear  = 2099
	lastDay   = 43829
	epochDay  = 5
	lastTime  = 3786479999
	dayLong   = 86400
	weekLong  = 604800
	cycle     = 1024
	lastWeek  = 6000

	longestText  = 40
	longestInput = 300
	mostFrames   = 8

	mostLeaps = 8
	lastLeap  = lastTime / 2

	farOffset   = 1000000
	mostSources = 7
	mostSamples = 8

	fastRate    = 500000
	rateLong    = 1000
	longestSpan = 100000
	stepFrom    = 128000
	slewLong    = 4096

	mostPhases = 16

	mostError  = 1000000
	mostWander = 1000
	lockLong   = 60
	goodError  = 1000
	poorError  = 100000

	mostSpread  = 65535
	lastCivil   = 200000000
	lastStamp   = 200000000999999
	packetLong  = 23
	lastMicro   = 999999
	secondLong  = 1000000
	mostLeap    = 3
	mostMode    = 7
	mostStratum = 15
	mostPoll    = 17

	clientMode = 3
	serverMode = 4
	alarm      = 3
	levelNone  = 0
	levelHold  = 1
	levelLock  = 2

	smearLong = 86400
	halfSmear = smearLong / 2

	minPower  = 4
	maxPower  = 10
	mostCount = 30
	pollGate  = 4
	mostPolls = 30

	lastReading = 100000000
	mostPulses  = 16
	pulseSlack  = 2000
	labelSlack  = 700000

	lastClient  = 99
	mostTokens  = 5
	tokenLong   = 8
	mostBuckets = 8

	mostSeen = 32

	mostLines     = 20
	leastSeen     = 4
	fixError      = 100
	sessionWander = 10
)

// outside returns numbers that are not in low..high: the nearest ones, and
// far ones with which careless arithmetic overflows.
func outside(low int, high int) []int {
	return []int{low - 1, low - 7, high + 1, high + 7, -math.MaxInt32, math.MaxUint32 * 100000, math.MinInt, math.MinInt + 1, math.MaxInt - 1, math.MaxInt}
}

// plainFloor returns a number divided by a positive one and rounded down.
func plainFloor(n int, by int) int {
	rest := (n%by + by) % by
	return (n - rest) / by
}

// calendar returns all dates in order, as the standard library knows them.
func calendar() []impl.Date {
	var dates []impl.Date
	first := time.Date(firstYear, time.January, 1, 0, 0, 0, 0, time.UTC)
	for at := first; at.Year() <= lastYear; at = at.AddDate(0, 0, 1) {
		dates = append(dates, impl.Date{Year: at.Year(), Month: int(at.Month()), Day: at.Day()})
	}
	return dates
}

// hasLeapDay reports whether a year has 29 February, as the standard library knows it.
func hasLeapDay(year int) bool {
	return time.Date(year, time.February, 29, 0, 0, 0, 0, time.UTC).Month() == time.February
}

// someTimes returns satellite times, ascending: the first and the last ones,
// those around ends of days, of many weeks and of cycles of weeks, and others.
func someTimes() []int {
	seconds := []int{0, 1, 59, 60, dayLong - 1, dayLong, 4*dayLong + 4321, weekLong - 2, weekLong - 1}
	var times []int
	for week := 0; week*weekLong <= lastTime; week++ {
		if week > 2 && week < 6258 && week%cycle > 2 && week%cycle < cycle-2 && week%37 != 0 && (week < 5998 || week > 6001) {
			continue
		}
		for _, second := range seconds {
			if t := week*weekLong + second; t <= lastTime {
				times = append(times, t)
			}
		}
	}
	return append(times, lastTime-1, lastTime)
}

// someWeeks returns weeks that a full week can be asked from, ascending.
func someWeeks() []int {
	var weeks []int
	for week := 0; week <= lastWeek; week++ {
		if week < 3 || week > lastWeek-3 || week%cycle < 2 || week%cycle > cycle-3 || week%83 == 0 {
			weeks = append(weeks, week)
		}
	}
	return weeks
}

// dice gives numbers that look thrown but are the same in every run.
type dice uint32

// throw returns one of the numbers in 0..sides-1.
func (d *dice) throw(sides int) int {
	*d = *d*1664525 + 1013904223
	return int(*d>>8) % sides
}
