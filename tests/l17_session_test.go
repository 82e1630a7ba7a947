package tests

import (
	"fmt"
	"regexp"
	"slices"
	"strconv"
	"strings"
	"testing"
	"time"

	"loop.example/satelliteclock/impl"
)

func TestLimitsOfSessions(t *testing.T) {
	if impl.MaxLines != mostLines || impl.MinSeen != leastSeen || impl.FixError != fixError || impl.SessionWander != sessionWander {
		t.Error("a limit of chapter 17 is not that of the document")
	}
}

func TestSessionsWithoutLines(t *testing.T) {
	for _, lines := range [][]string{nil, {}, make([]string, 0, 5)} {
		if got := impl.RunSession(lines); got != "" {
			t.Errorf("RunSession(%q) = %q", lines, got)
		}
	}
}

func TestSessionsBegin(t *testing.T) {
	expectOutput(t, "level", "0")
	expectOutput(t, "date", "1980-01-06")
	expectOutput(t, "ask 0", "alarm")
	expectOutput(t, "ask 99", "alarm")
	expectOutput(t, "wait 0", "ok")
	expectOutput(t, "wait 1", "ok")
	expectOutput(t, plainSentence(fixAfter(0, 9)), "ok")
	expectOutput(t, "", "what")
}

func TestFirstMaxLines(t *testing.T) {
	var lines []string
	for n := range 3 * mostLines {
		lines = append(lines, "level")
		if got, want := impl.RunSession(lines), strings.Repeat("0\n", min(n+1, mostLines)); got != want {
			t.Errorf("%d lines print %q", n+1, got)
		}
	}
	// Lines beyond the last one are not even looked at.
	lines = slices.Repeat([]string{""}, mostLines-2)
	lines = append(lines, "wait 86400", "date", "wait 86400", "date", "")
	if got, want := impl.RunSession(lines), strings.Repeat("what\n", mostLines-2)+"ok\n1980-01-07\n"; got != want {
		t.Errorf("RunSession(%q) = %q", lines, got)
	}
}

func TestLinesThatAreNoCommands(t *testing.T) {
	for _, line := range []string{
		"", " ", "  ", "\n", "\t", "\x00", "\xff", "help", "what", "ok", "no", "5", "-1", "*", "#", "time", "fix", "FIX,010203,17,11,2026,9", "quit", "日本",
		// A blank ahead, behind, or two of them.
		" level", "level ", " level ", "  level", "level  ", " date", "date ", "date  ", " wait 5", "wait 5 ", "wait  5", "  wait 5", "wait 5  ", " wait", " ask 1", "ask 1 ", "ask  1", "wait  ", "ask  ",
		// A word too few or too many.
		"wait", "ask", "level 1", "level 0", "date 1", "level level", "date date", "level date", "wait 1 2", "wait 1 x", "wait x 1", "ask 1 2", "ask 1 ask 1", "level 1 2", "date 1 2", "wait wait 1", "wait 5 5 5",
		// Capitals, and commands that begin like others.
		"Level", "LEVEL", "leveL", "Date", "DATE", "Wait 5", "WAIT 5", "waiT 5", "Ask 1", "ASK 1", "levels", "leve", "lev", "l", "dates", "dat", "d", "waits 5", "wai 5", "w 5", "asks 1", "as 1", "a 1", "level1", "wait5", "ask1", "wait5 5", "xwait 5", "xlevel",
		// Other signs between words, or beside them.
		"wait\t5", "wait\n5", "wait,5", "wait=5", "wait_5", "wait\u00a05", "ask\t1", "ask:1", "level\n", "level\t", "\tlevel", "level\r", "level.", "level;date", "date\n", "date\x00", "\ufefflevel", "\"level\"",
		// Sentences with something ahead.
		" " + plainSentence(fixAfter(100, 9)), "x" + plainSentence(fixAfter(100, 9)), "fix " + plainSentence(fixAfter(100, 9)), " $",
	} {
		expectOutput(t, line, "what")
		expectNothingChanged(t, line, "what")
	}
}

func TestNumbersOfWait(t *testing.T) {
	for _, word := range []string{"0", "1", "9", "10", "60", "100", "86400", "999999999", "1000000000", "3786479999"} {
		expectOutput(t, "wait "+word, "ok")
	}
	for _, word := range slices.Concat(wordsThatAreNoNumbers(), []string{"3786480000", "3786480001", "9999999999"}) {
		expectOutput(t, "wait "+word, "no")
		expectNothingChanged(t, "wait "+word, "no")
	}
}

func TestNumbersOfAsk(t *testing.T) {
	for client := range lastClient + 1 {
		expectOutput(t, "ask "+strconv.Itoa(client), "alarm")
	}
	for _, word := range slices.Concat(wordsThatAreNoNumbers(), []string{"100", "101", "256", "1000", "4294967296", "9999999999"}) {
		expectOutput(t, "ask "+word, "no")
		expectNothingChanged(t, "ask "+word, "no")
	}
}

func TestWait(t *testing.T) {
	expectSession(t, []string{"wait 0", "date", "wait 86399", "date", "wait 1", "date", "wait 0", "date"},
		"ok 1980-01-06 ok 1980-01-06 ok 1980-01-07 ok 1980-01-07")
	// Up to MaxTime, and one beyond it.
	expectSession(t, []string{"wait 3786479999", "date", "wait 0", "wait 1", "date", "wait 3786479999", "wait -1"},
		"ok 2099-12-31 ok no 2099-12-31 no no")
	expectSession(t, []string{"wait 3786480000", "date", "wait 3786479998", "wait 2", "wait 1", "wait 1", "date"},
		"no 1980-01-06 ok no ok no 2099-12-31")
	last := plainSentence(impl.Fix{Date: date(2099, 12, 31), Second: 86390, Seen: 9})
	expectSession(t, []string{last, "wait 10", "ask 1", "wait 9", "ask 2", "wait 1", "ask 3", "wait 0"},
		"ok no 3786479990_100 ok 3786479999_190 no 3786479999_190 ok")
}

func TestDatesOfSessions(t *testing.T) {
	expectSession(t, []string{plainSentence(impl.Fix{Date: date(1999, 12, 31), Second: 86399, Seen: 9}), "date", "wait 1", "date", "wait 86399", "date", "wait 1", "date"},
		"ok 1999-12-31 ok 2000-01-01 ok 2000-01-01 ok 2000-01-02")
	expectSession(t, []string{plainSentence(impl.Fix{Date: date(2000, 2, 28), Second: 86399, Seen: 9}), "date", "wait 1", "date", "wait 86400", "date"},
		"ok 2000-02-28 ok 2000-02-29 ok 2000-03-01")
	expectSession(t, []string{plainSentence(impl.Fix{Date: date(2023, 2, 28), Second: 86400, Seen: 9}), "date", "wait 1", "date", "wait 19699200", "date", "wait 6134400", "date"},
		"ok 2023-02-28 ok 2023-03-01 ok 2023-10-15 ok 2023-12-25")
	for _, d := range calendar()[epochDay:] {
		want := "ok\n" + time.Date(d.Year, time.Month(d.Month), d.Day, 0, 0, 0, 0, time.UTC).Format("2006-01-02") + "\n"
		for _, second := range []int{0, dayLong - 1, dayLong} {
			lines := []string{plainSentence(impl.Fix{Date: d, Second: second, Seen: leastSeen}), "date"}
			if got := impl.RunSession(lines); got != want {
				t.Errorf("RunSession(%q) = %q, want %q", lines, got, want)
			}
		}
	}
}

func TestFixesOfSessions(t *testing.T) {
	first := plainSentence(impl.Fix{Date: date(2016, 12, 31), Second: 86399, Seen: 9})
	leap := plainSentence(impl.Fix{Date: date(2016, 12, 31), Second: 86400, Seen: 9})
	next := plainSentence(impl.Fix{Date: date(2017, 1, 1), Second: 0, Seen: 9})
	before := plainSentence(impl.Fix{Date: date(2016, 12, 31), Second: 86398, Seen: 9})
	// Of the last second, the leap second and the next one, and backwards.
	expectSession(t, []string{before, "ask 1", first, "ask 1", leap, "ask 1", next, "ask 1", "date"},
		"ok 1167263998_100 ok 1167263999_100 ok 1167263999_100 ok 1167264000_100 2017-01-01")
	expectSession(t, []string{next, leap, first, before, "ask 1", "date", next},
		"ok no no no 1167264000_100 2017-01-01 ok")
	expectSession(t, []string{leap, first, leap, before, "ask 1", "date", "wait 1", leap, next, "ask 1"},
		"ok ok ok no 1167263999_100 2016-12-31 ok no ok 1167264000_100")
	// A second early, at the time, and a second late, behind a wait.
	expectSession(t, []string{"wait 1000", plainSentence(fixAfter(999, 9)), "level", plainSentence(fixAfter(1000, 9)), "level", "ask 1"},
		"ok no 0 ok 2 1000_100")
	expectSession(t, []string{"wait 1000", plainSentence(fixAfter(1001, 9)), "level", "ask 1", "wait 7", plainSentence(fixAfter(1007, 9)), "ask 1", plainSentence(fixAfter(1008, 9)), "ask 1"},
		"ok ok 2 1001_100 ok no 1008_170 ok 1008_100")
	// At the first second, and before it.
	for _, d := range []impl.Date{date(1980, 1, 1), date(1980, 1, 5)} {
		for _, second := range []int{0, 86399, 86400} {
			expectSession(t, []string{plainSentence(impl.Fix{Date: d, Second: second, Seen: 9}), "level", "ask 1"}, "no 0 alarm")
		}
	}
	expectSession(t, []string{plainSentence(fixAfter(0, 9)), "level", "ask 1"}, "ok 2 0_100")
	// At the last one.
	for _, second := range []int{86399, 86400} {
		expectSession(t, []string{plainSentence(impl.Fix{Date: date(2099, 12, 31), Second: second, Seen: 9}), "level", "ask 1", "wait 1"}, "ok 2 3786479999_100 no")
	}
}

func TestSatellitesOfSessions(t *testing.T) {
	for seen := range mostSeen + 1 {
		want := "ok 2 5000_100"
		if seen < leastSeen {
			want = "no 0 alarm"
		}
		expectSession(t, []string{plainSentence(fixAfter(5000, seen)), "level", "ask 1"}, want)
		expectSession(t, []string{plainFrame("FIX,012320,06,01,1980," + strconv.Itoa(seen)), "level", "ask 1"}, want)
	}
	for _, seen := range []string{"33", "40", "100", "-1", "-4", "", "04", "09", "+4", " 4", "4 ", "x"} {
		expectSession(t, []string{plainFrame("FIX,012320,06,01,1980," + seen), "level", "ask 1"}, "no 0 alarm")
	}
	// Few satellites do not even confirm the time.
	expectSession(t, []string{plainSentence(fixAfter(5000, 4)), "wait 200", plainSentence(fixAfter(5200, 3)), "ask 1", "level", plainSentence(fixAfter(5200, 4)), "ask 1", "level"},
		"ok ok no 5200_2100 1 ok 5200_100 2")
}

func TestSentencesThatAreNoFixes(t *testing.T) {
	for _, line := range []string{
		"$", "$ ", "$ level", "$level", "$FIX", "$wait 5", "$$", "$*00", "$A*41", "$A*00",
		plainFrame("FIX"), plainFrame("level"), plainFrame("FIX,010203,17,11,2026"), plainFrame("FIX,120060,17,11,2026,9"), plainFrame("FIX,240000,17,11,2026,9"), plainFrame("FIX,126000,17,11,2026,9"), plainFrame("FIX,010203,31,11,2026,9"), plainFrame("FIX,010203,29,02,2026,9"), plainFrame("fix,010203,17,11,2026,9"), plainFrame("FIX,010203,17,11,2026,9,"), plainFrame("FIX,010203,17,11,2026,09"), plainFrame("FIX,010203,17,11,2100,9"),
		plainSentence(fixAfter(100, 9)) + " ", plainSentence(fixAfter(100, 9)) + "\n", plainSentence(fixAfter(100, 9)) + " 1", "$" + plainSentence(fixAfter(100, 9)), "$ " + plainSentence(fixAfter(100, 9)),
		"$FIX,010203,17,11,2026,9*00", "$FIX,010203,17,11,2026,9*", "$FIX,010203,17,11,2026,9",
	} {
		expectOutput(t, line, "no")
		expectNothingChanged(t, line, "no")
	}
}

func TestLevelsOfSessions(t *testing.T) {
	fix := plainSentence(fixAfter(1000, 9))
	cases := []struct {
		wait  int
		level string
		most  string
	}{
		{0, "2", "1000_100"},
		{1, "2", "1001_110"},
		{59, "2", "1059_690"},
		{60, "2", "1060_700"},
		// Behind LockSeconds, though the error is small.
		{61, "1", "1061_710"},
		{90, "1", "1090_1000"},
		{91, "1", "1091_1010"},
		{9989, "1", "10989_99990"},
		{9990, "1", "10990_100000"},
		{9991, "0", "alarm"},
		{100000, "0", "alarm"},
		{1000000000, "0", "alarm"},
		{lastTime - 1000, "0", "alarm"},
	}
	for _, c := range cases {
		wait := "wait " + strconv.Itoa(c.wait)
		expectSession(t, []string{fix, wait, "level", "ask 1", "level"}, "ok ok "+c.level+" "+c.most+" "+c.level)
		// The time before the first fix does not help, nor do sentences that are not taken.
		expectSession(t, []string{"wait 900", "level", fix, wait, plainSentence(fixAfter(999, 9)), plainSentence(fixAfter(1000+c.wait, 3)), "level", "ask 1"},
			"ok 0 ok ok no no "+c.level+" "+c.most)
	}
	for _, wait := range []string{"0", "60", "61", "9991", "3786479999"} {
		expectSession(t, []string{"level", "wait " + wait, "level", "ask 1"}, "0 ok 0 alarm")
	}
	// Satellites that are seen again help at once.
	expectSession(t, []string{fix, "wait 61", "level", plainSentence(fixAfter(1061, 4)), "level", "ask 1", "wait 60", "level", "wait 1", "level", "ask 1", "wait 99999", "level", "ask 1", plainSentence(fixAfter(101120, 4)), "level", "ask 1"},
		"ok ok 1 ok 2 1061_100 ok 2 ok 1 1122_710 ok 0 alarm no 0 alarm")
	expectSession(t, []string{fix, "wait 99999", "level", plainSentence(fixAfter(100999, 4)), "level", "ask 1"},
		"ok ok 0 ok 2 100999_100")
}

func TestTokensOfSessions(t *testing.T) {
	fix := plainSentence(fixAfter(1000, 9))
	// More than MaxTokens times at once, and when a token is back.
	expectSession(t, []string{fix, "ask 7", "ask 7", "ask 7", "ask 7", "ask 7", "ask 7", "ask 7", "wait 7", "ask 7", "wait 1", "ask 7", "ask 7", "wait 8", "ask 7", "ask 7", "wait 16", "ask 7", "ask 7", "ask 7"},
		"ok 1000_100 1000_100 1000_100 1000_100 1000_100 later later ok later ok 1008_180 later ok 1016_260 later ok 1032_420 1032_420 later")
	// An alarm costs a token, too.
	expectSession(t, []string{"ask 7", "ask 7", "ask 7", "ask 7", "ask 7", "ask 7", fix[:5], "ask 7", plainSentence(fixAfter(0, 9)), "ask 7", "ask 8", "wait 8", "ask 7", "ask 7"},
		"alarm alarm alarm alarm alarm later no later ok later 0_100 ok 8_180 later")
	// A question that is not answered does not make the client wait anew.
	expectSession(t, []string{"ask 0", "ask 0", "ask 0", "ask 0", "ask 0", "wait 5", "ask 0", "wait 2", "ask 0", "wait 1", "ask 0", "ask 0"},
		"alarm alarm alarm alarm alarm ok later ok later ok alarm later")
	// The clients do not take each other's tokens.
	expectSession(t, []string{fix, "ask 1", "ask 2", "ask 1", "ask 2", "ask 1", "ask 2", "ask 1", "ask 2", "ask 1", "ask 2", "ask 1", "ask 2", "ask 3"},
		"ok 1000_100 1000_100 1000_100 1000_100 1000_100 1000_100 1000_100 1000_100 1000_100 1000_100 later later 1000_100")
	// Tokens come back with the time that fixes tell, too.
	expectSession(t, []string{fix, "ask 7", "ask 7", "ask 7", "ask 7", "ask 7", plainSentence(fixAfter(1007, 9)), "ask 7", plainSentence(fixAfter(1008, 9)), "ask 7", "ask 7"},
		"ok 1000_100 1000_100 1000_100 1000_100 1000_100 ok later ok 1008_100 later")
}

// When MaxBuckets have a bucket, new clients fail, even when all are full again.
func TestClientsBeyondMaxBuckets(t *testing.T) {
	var lines []string
	for n := range mostBuckets {
		lines = append(lines, "ask "+strconv.Itoa(10*n))
	}
	lines = append(lines, "ask 99", "ask 5", "ask 70", "wait 1000", "ask 99", "ask 0", "ask 1", "ask 70", "ask 71")
	expectSession(t, lines, strings.Repeat("alarm ", mostBuckets)+"no no alarm ok no alarm no alarm no")
}

func TestSessionsOfAllKinds(t *testing.T) {
	for _, lines := range someSessions() {
		expectSession(t, lines, strings.Join(plainSession(lines), " "))
	}
}

func TestP131SessionsRunLineByLine(t *testing.T) {
	for _, lines := range someSessions() {
		all := impl.RunSession(lines)
		for n := range len(lines) + 1 {
			first := impl.RunSession(lines[:n])
			if !strings.HasPrefix(all, first) || strings.Count(first, "\n") != min(n, mostLines) {
				t.Errorf("RunSession(%q) = %q, of the first %d lines %q", lines, all, n, first)
			}
		}
	}
}

func TestP132QuestionsChangeNothing(t *testing.T) {
	for _, lines := range someSessions() {
		lines = lines[:min(len(lines), mostLines-5)]
		got := outputOf(slices.Concat(lines, []string{"level", "date", "level", "date", "level"}))[len(lines):]
		if got[0] != got[2] || got[2] != got[4] || got[1] != got[3] {
			t.Errorf("behind %q level and date print %q", lines, got)
		}
		// Neither does it change what the other lines print.
		plain := outputOf(append(slices.Clone(lines), "ask 50", "level"))[len(lines):]
		asked := outputOf(append(slices.Clone(lines), "level", "date", "ask 50", "level"))[len(lines)+2:]
		if !slices.Equal(plain, asked) {
			t.Errorf("behind %q ask prints %q, and behind questions %q", lines, plain, asked)
		}
	}
}

func TestP133FixesLockClocks(t *testing.T) {
	f := impl.Fix{Date: impl.DateOf(100), Second: 4321, Seen: leastSeen}
	at := 95*dayLong + 4321
	for _, before := range [][]string{
		nil,
		{"level", "date"},
		{"ask 1", "ask 2"},
		{"wait 1000"},
		{"wait " + strconv.Itoa(at)},
		{plainSentence(fixAfter(5000, 9)), "ask 1"},
		{plainSentence(fixAfter(at, 9))},
		{plainSentence(fixAfter(at-1, 9)), "wait 1"},
		{plainSentence(fixAfter(at-5000, 9)), "wait 4000", "what is this"},
	} {
		got := outputOf(append(slices.Clone(before), plainSentence(f), "level", "ask 1", "date"))[len(before):]
		if want := []string{"ok", "2", fmt.Sprint(at, " 100"), "1980-04-10"}; !slices.Equal(got, want) {
			t.Errorf("behind %q a fix, level, ask and date print %q", before, got)
		}
	}
}

func TestP134ClocksThatNeverSawSatellitesAreNoClocks(t *testing.T) {
	for _, lines := range someSessions() {
		lines = slices.DeleteFunc(slices.Clone(lines), func(line string) bool { return strings.HasPrefix(line, "$") })
		for n, output := range outputOf(lines) {
			if answer := strings.HasPrefix(lines[n], "ask "); answer && output != "alarm" && output != "later" && output != "no" || lines[n] == "level" && output != "0" {
				t.Errorf("%q prints %q without a fix", lines[n], output)
			}
		}
	}
	for _, wait := range []string{"0", "1", "60", "1000", "100000", "3786479999"} {
		expectSession(t, []string{"wait " + wait, "ask 5", plainSentence(fixAfter(lastTime, 3)), "ask 5"}, "ok alarm no alarm")
	}
}

func TestSessionsKeepNoState(t *testing.T) {
	sessions := someSessions()
	var first []string
	for _, lines := range sessions {
		first = append(first, impl.RunSession(lines))
	}
	for n, lines := range sessions {
		if got := impl.RunSession(lines); got != first[n] {
			t.Errorf("RunSession(%q) = %q, earlier %q", lines, got, first[n])
		}
	}
}

func TestLinesAreNotChanged(t *testing.T) {
	for _, lines := range someSessions() {
		kept := slices.Clone(lines)
		impl.RunSession(lines)
		if !slices.Equal(lines, kept) {
			t.Errorf("%q became %q", kept, lines)
		}
	}
}

// expectOutput checks what a line prints at the beginning of a session.
func expectOutput(t *testing.T, line string, want string) {
	t.Helper()
	if got := impl.RunSession([]string{line}); got != want+"\n" {
		t.Errorf("RunSession of %q = %q, want %q", line, got, want)
	}
}

// expectSession checks what lines print. The words that are wanted are separated
// by spaces, so a space inside of one is written as _.
func expectSession(t *testing.T, lines []string, want string) {
	t.Helper()
	var output strings.Builder
	for _, line := range strings.Fields(want) {
		output.WriteString(strings.ReplaceAll(line, "_", " ") + "\n")
	}
	if got := impl.RunSession(lines); got != output.String() {
		t.Errorf("RunSession(%q) = %q, want %q", lines, got, output.String())
	}
}

// expectNothingChanged checks that a line does not change what those behind it
// print: with it in front, and behind a fix and a question.
func expectNothingChanged(t *testing.T, line string, want string) {
	t.Helper()
	around := []string{"date", "level", "ask 1", "ask 1", "ask 1", "ask 1", "ask 1", "ask 1", plainSentence(fixAfter(7, 9)), "level", "ask 1", "ask 2", "wait 3786479992", "date"}
	plain := outputOf(around)
	for n := range around {
		got := outputOf(slices.Insert(slices.Clone(around), n, line))
		if !slices.Equal(got, slices.Insert(slices.Clone(plain), n, want)) {
			t.Errorf("with %q in front of line %d lines print %q, without it %q", line, n+1, got, plain)
		}
	}
}

// outputOf returns the lines that a session prints.
func outputOf(lines []string) []string {
	output := strings.Split(impl.RunSession(lines), "\n")
	return output[:len(output)-1]
}

// fixAfter returns the fix some seconds after the beginning of satellite time.
func fixAfter(seconds int, seen int) impl.Fix {
	at := time.Date(1980, time.January, 6, 0, 0, 0, 0, time.UTC).Add(time.Duration(seconds) * time.Second)
	return impl.Fix{Date: date(at.Year(), int(at.Month()), at.Day()), Second: at.Hour()*3600 + at.Minute()*60 + at.Second(), Seen: seen}
}

// wordsThatAreNoNumbers returns words that count as -1 where a number is
// expected; most of them look like a number that would be taken.
func wordsThatAreNoNumbers() []string {
	return []string{
		"", "x", "one", "level", "N", "CLIENT", "-", "+", ".", "_",
		// Signs.
		"-1", "-0", "+1", "+0", "+5", "-5", "--1", "1-", "5+", "-9999999999",
		// Zeros ahead.
		"00", "01", "05", "000", "007", "0000000000", "0000000001", "00000000001",
		// Eleven digits and more.
		"10000000000", "12345678901", "99999999999", "00000000000", "18446744073709551616", "18446744073709551621", "18446744073709551617", "4294967296000", strings.Repeat("9", 100), strings.Repeat("0", 100),
		// Other signs among digits, and other forms of numbers.
		"1.0", "1,0", "1_0", "1e1", "0x1", "0b1", "0o1", "1h", "h1", "5x", "x5", "1\n", "1\t", "\t1", "1\x00", "\x001", "1\r", "5\u00a0", "٥", "５", "½", "5'", "$5", "5*", "1/1", "1:1", "3;",
	}
}

// numberPattern is the form of a number in a line.
var numberPattern = regexp.MustCompile(`^(wait|ask) (0|[1-9][0-9]{0,9})$`)

// plainClock is a session as the document says it.
type plainClock struct {
	time    int
	fixed   int
	isFixed bool
	buckets []impl.Bucket
}

// plainSession returns what lines print as the document says it, with _ instead
// of spaces.
func plainSession(lines []string) []string {
	var c plainClock
	var output []string
	for n, line := range lines {
		if n < 20 {
			output = append(output, c.execute(line))
		}
	}
	return output
}

// execute returns what a line prints.
func (c *plainClock) execute(line string) string {
	level, most := c.levelAndError()
	number := -1
	if parts := numberPattern.FindStringSubmatch(line); parts != nil {
		number, _ = strconv.Atoi(parts[2])
	}
	switch {
	case strings.HasPrefix(line, "$"):
		return c.takeFix(line)
	case line == "level":
		return strconv.Itoa(level)
	case line == "date":
		return time.Date(1980, time.January, 6, 0, 0, c.time, 0, time.UTC).Format("2006-01-02")
	case strings.Count(line, " ") != 1:
		return "what"
	case strings.HasPrefix(line, "wait "):
		if number < 0 || c.time+number > lastTime {
			return "no"
		}
		c.time += number
		return "ok"
	case strings.HasPrefix(line, "ask "):
		return c.ask(number, level, most)
	}
	return "what"
}

// takeFix returns what a sentence prints.
func (c *plainClock) takeFix(line string) string {
	f, ok := plainParse(line)
	if !ok || f.Seen < 4 || plainCivilFix(f) < c.time {
		return "no"
	}
	c.time = plainCivilFix(f)
	c.fixed, c.isFixed = c.time, true
	return "ok"
}

// ask returns what a question prints.
func (c *plainClock) ask(client int, level int, most int) string {
	if client < 0 || client > 99 {
		return "no"
	}
	after, answered, ok := plainTake(c.buckets, client, c.time)
	if !ok {
		return "no"
	}
	c.buckets = after
	if !answered {
		return "later"
	}
	if level == 0 {
		return "alarm"
	}
	return fmt.Sprintf("%d_%d", c.time, most)
}

// levelAndError returns the level and the greatest possible error.
func (c *plainClock) levelAndError() (int, int) {
	if !c.isFixed {
		return 0, 1000000
	}
	most := min(100+10*(c.time-c.fixed), 1000000)
	switch {
	case c.time-c.fixed <= 60:
		return 2, most
	case most <= 100000:
		return 1, most
	}
	return 0, most
}

// someSessions returns lines of sessions: thrown ones, of which most do
// something at the time at which they come.
func someSessions() [][]string {
	sessions := [][]string{nil, {""}, {"level"}}
	var d dice
	for n := range 1500 {
		var c plainClock
		var lines []string
		for range d.throw(mostLines + 6) {
			line := thrownLine(&d, c.time, n)
			c.execute(line)
			lines = append(lines, line)
		}
		sessions = append(sessions, lines)
	}
	return sessions
}

// thrownLine returns a line that may come at a time. In some sessions few
// clients ask, in others many; in some there are no fixes.
func thrownLine(d *dice, now int, session int) string {
	switch kind := d.throw(10); {
	case kind < 4:
		clients := []int{1, 3, 12, lastClient + 2}[session%4]
		return "ask " + strconv.Itoa(d.throw(clients))
	case kind < 6:
		waits := []int{0, 1, 7, 8, 9, 40, 60, 61, 90, 91, 9990, 9991, d.throw(100), d.throw(20000), d.throw(100000000), lastTime - now, lastTime - now + 1}
		if session%7 > 0 {
			waits = waits[:14]
		}
		return "wait " + strconv.Itoa(waits[d.throw(len(waits))])
	case kind < 8 && session%5 > 0:
		at := now + []int{0, 0, -1, 1, 100, -100, d.throw(1000), d.throw(100000), dayLong - 1 - now%dayLong}[d.throw(9)]
		f := fixAfter(max(0, min(at, lastTime)), []int{3, 4, 5, 9, 32, 33}[d.throw(6)])
		if f.Second == dayLong-1 {
			f.Second += d.throw(2)
		}
		return plainSentence(f)
	case kind < 9:
		return []string{"level", "date"}[d.throw(2)]
	}
	others := []string{"", "help", "wait", "ask", "wait 1 2", "level ", "wait x", "ask x", "wait ", "ask ", "wait -1", "ask -1", "ask 01", "wait 01", "$", "$FIX", "LEVEL", " date", "wait  1", "wait 99999999999", "ask 100"}
	return others[d.throw(len(others))]
}
