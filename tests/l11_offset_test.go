package tests

import (
	"math"
	"slices"
	"testing"

	"loop.example/satelliteclock/impl"
)

func TestLimitsOfOffsets(t *testing.T) {
	if impl.ModeClient != clientMode || impl.ModeServer != serverMode || impl.LeapAlarm != alarm {
		t.Error("a constant of chapter 11 is not that of the document")
	}
}

func TestOffsetOf(t *testing.T) {
	cases := []struct {
		list   []int
		offset int
		delay  int
		span   impl.Span
	}{
		{[]int{0, 0, 0, 0}, 0, 0, impl.Span{}},
		{[]int{100, 250, 260, 130}, 140, 20, impl.Span{Low: 130, High: 150}},
		{[]int{100, 90, 91, 102}, -11, 1, impl.Span{Low: -12, High: -10}},
		{[]int{lastStamp, lastStamp, lastStamp, lastStamp}, 0, 0, impl.Span{}},
		// Odd sums above and below 0.
		{[]int{0, 1, 1, 1}, 0, 1, impl.Span{Low: -1, High: 1}},
		{[]int{1, 1, 1, 2}, -1, 1, impl.Span{Low: -2, High: 0}},
		{[]int{10, 13, 13, 11}, 2, 1, impl.Span{Low: 1, High: 3}},
		{[]int{10, 7, 7, 9}, -3, 0, impl.Span{Low: -3, High: -3}},
		{[]int{10, 7, 7, 11}, -4, 1, impl.Span{Low: -5, High: -3}},
		{[]int{10, 7, 7, 12}, -4, 2, impl.Span{Low: -5, High: -3}},
		{[]int{10, 7, 7, 13}, -5, 3, impl.Span{Low: -7, High: -3}},
		{[]int{10, 7, 7, 14}, -5, 4, impl.Span{Low: -7, High: -3}},
		// Ways that differ: all of the time is on one of them.
		{[]int{100, 120, 120, 120}, 10, 20, impl.Span{Low: 0, High: 20}},
		{[]int{100, 100, 100, 120}, -10, 20, impl.Span{Low: -20, High: 0}},
		// A server that works for a while.
		{[]int{100, 105, 1105, 1110}, 0, 10, impl.Span{Low: -5, High: 5}},
		// A delay of exactly 0, and ones that would be less.
		{[]int{100, 150, 170, 120}, 50, 0, impl.Span{Low: 50, High: 50}},
		{[]int{100, 150, 171, 120}, 50, 0, impl.Span{Low: 50, High: 50}},
		{[]int{100, 150, 172, 120}, 51, 0, impl.Span{Low: 51, High: 51}},
		{[]int{100, 90, 99, 102}, -7, 0, impl.Span{Low: -7, High: -7}},
		// The clock of the client runs backwards.
		{[]int{130, 250, 260, 100}, 140, 0, impl.Span{Low: 140, High: 140}},
		{[]int{130, 130, 130, 100}, 15, 0, impl.Span{Low: 15, High: 15}},
		// The clock of the server runs backwards, and both do.
		{[]int{100, 260, 250, 130}, 140, 40, impl.Span{Low: 120, High: 160}},
		{[]int{100, 100, 90, 100}, -5, 10, impl.Span{Low: -10, High: 0}},
		{[]int{130, 260, 200, 100}, 115, 30, impl.Span{Low: 100, High: 130}},
		{[]int{130, 260, 240, 100}, 135, 0, impl.Span{Low: 135, High: 135}},
	}
	for _, c := range cases {
		expectExchange(t, c.list, c.offset, c.delay)
		expectSpan(t, c.list, c.span)
	}
}

// Time stamps at both ends of their limits, of which most spans are too far.
func TestOffsetsOfFarStamps(t *testing.T) {
	cases := []struct {
		list   []int
		offset int
		delay  int
	}{
		{[]int{lastStamp, 0, 0, 0}, -100000000500000, 0},
		{[]int{0, lastStamp, 0, 0}, 100000000499999, lastStamp},
		{[]int{0, 0, lastStamp, 0}, 100000000499999, 0},
		{[]int{0, 0, 0, lastStamp}, -100000000500000, lastStamp},
		{[]int{lastStamp, 0, 0, lastStamp}, -lastStamp, 0},
		{[]int{0, lastStamp, lastStamp, 0}, lastStamp, 0},
		{[]int{0, lastStamp, 0, lastStamp}, 0, 2 * lastStamp},
		{[]int{lastStamp, 0, lastStamp, 0}, 0, 0},
		{[]int{lastStamp, lastStamp, 0, 0}, 0, 0},
		{[]int{0, 0, lastStamp, lastStamp}, 0, 0},
	}
	for _, c := range cases {
		expectExchange(t, c.list, c.offset, c.delay)
		if c.offset != 0 || c.delay != 0 {
			expectNoSpan(t, c.list)
		} else {
			expectSpan(t, c.list, impl.Span{})
		}
	}
}

func TestOffsetsOfAllExchanges(t *testing.T) {
	for _, list := range someExchanges() {
		offset, delay := plainExchange(list)
		expectExchange(t, list, offset, delay)
		low, high := offset-(delay+1)/2, offset+(delay+1)/2
		if low < -farOffset || high > farOffset {
			expectNoSpan(t, list)
		} else {
			expectSpan(t, list, impl.Span{Low: low, High: high})
		}
	}
}

func TestWrongExchanges(t *testing.T) {
	for _, list := range wrongExchanges() {
		if got, ok := impl.OffsetOf(list); got != 0 || ok {
			t.Errorf("OffsetOf(%v) = %d, %v", list, got, ok)
		}
		if got := impl.DelayOf(list); got != -1 {
			t.Errorf("DelayOf(%v) = %d", list, got)
		}
		expectNoSpan(t, list)
	}
}

// The spans of which one end, or both, are the limits of offsets or one beyond.
func TestSpansAtTheLimits(t *testing.T) {
	const far, middle = farOffset, 5000000
	cases := []struct {
		ahead int
		delay int
		low   int
		high  int
	}{
		{far, 0, far, far},
		{-far, 0, -far, -far},
		{far - 5, 10, far - 10, far},
		{far - 5, 9, far - 10, far},
		{-far + 5, 10, -far, -far + 10},
		{-far + 5, 9, -far, -far + 10},
		{0, 2 * far, -far, far},
		{0, 2*far - 1, -far, far},
		{far + 1, 0, 0, 0},
		{-far - 1, 0, 0, 0},
		{far, 1, 0, 0},
		{-far, 1, 0, 0},
		{far - 4, 10, 0, 0},
		{far - 4, 9, 0, 0},
		{far - 5, 11, 0, 0},
		{-far + 4, 10, 0, 0},
		{-far + 4, 9, 0, 0},
		{-far + 5, 11, 0, 0},
		{0, 2*far + 1, 0, 0},
		{1, 2 * far, 0, 0},
		{-1, 2 * far, 0, 0},
	}
	for _, c := range cases {
		// The way back is shorter by 1 if the delay is odd.
		there, back := (c.delay+1)/2, c.delay/2
		list := []int{middle, middle + c.ahead + there, middle + c.ahead + there, middle + there + back}
		expectExchange(t, list, c.ahead, c.delay)
		if c.low == 0 && c.high == 0 {
			expectNoSpan(t, list)
		} else {
			expectSpan(t, list, impl.Span{Low: c.low, High: c.high})
		}
	}
}

func TestP87EqualWaysCancel(t *testing.T) {
	for _, list := range someExchanges() {
		longer, valid := moved(list, 0, 8, 8, 16)
		if !valid {
			continue
		}
		want, _ := impl.OffsetOf(list)
		if got, ok := impl.OffsetOf(longer); got != want || !ok {
			t.Errorf("OffsetOf(%v) = %d, %v, OffsetOf(%v) = %d", longer, got, ok, list, want)
		}
		delay, got := impl.DelayOf(list), impl.DelayOf(longer)
		if delay > 0 && got != delay+16 || delay == 0 && (got < 0 || got > 16) {
			t.Errorf("DelayOf(%v) = %d, DelayOf(%v) = %d", longer, got, list, delay)
		}
	}
}

func TestP88OffsetsAreDifferences(t *testing.T) {
	for _, list := range someExchanges() {
		ahead, valid := moved(list, 0, 10, 10, 0)
		if !valid {
			continue
		}
		offset, ok := impl.OffsetOf(list)
		if !ok {
			t.Errorf("OffsetOf(%v) fails", list)
		}
		expectExchange(t, ahead, offset+10, impl.DelayOf(list))
	}
}

func TestP89WorkIsNoDelay(t *testing.T) {
	for _, list := range someExchanges() {
		longer, valid := moved(list, 0, 0, 5, 5)
		if !valid {
			continue
		}
		if want, got := impl.DelayOf(list), impl.DelayOf(longer); got != want || got < 0 {
			t.Errorf("DelayOf(%v) = %d, DelayOf(%v) = %d", longer, got, list, want)
		}
	}
}

func TestP90TheTrueOffsetIsInTheSpan(t *testing.T) {
	spans := 0
	for _, list := range someExchanges() {
		span, ok := impl.SpanOf(list)
		if !ok {
			continue
		}
		spans++
		offset, _ := impl.OffsetOf(list)
		if offset < span.Low || offset > span.High {
			t.Errorf("SpanOf(%v) = %v without the offset %d", list, span, offset)
		}
		if width, delay := span.High-span.Low, impl.DelayOf(list); width != delay && width != delay+1 {
			t.Errorf("SpanOf(%v) = %v, with the delay %d", list, span, delay)
		}
	}
	if spans < 300 {
		t.Errorf("only %d spans", spans)
	}
}

// Wherever the time was lost, the offset by which the server really is ahead is
// one of those that are possible.
func TestSpansHaveTheTrueOffset(t *testing.T) {
	for _, ahead := range []int{-1000, -7, 0, 1, 500} {
		for there := range 12 {
			for back := range 12 {
				list := []int{2000, 2000 + ahead + there, 2003 + ahead + there, 2003 + there + back}
				span, ok := impl.SpanOf(list)
				if !ok || ahead < span.Low || ahead > span.High {
					t.Errorf("SpanOf(%v) = %v, %v without %d", list, span, ok, ahead)
				}
			}
		}
	}
}

func TestP91SpansOfQuestionsCanVote(t *testing.T) {
	for _, list := range someExchanges() {
		span, ok := impl.SpanOf(list)
		if !ok {
			continue
		}
		alone := []impl.Span{span}
		if !impl.ValidSpans(alone) {
			t.Errorf("SpanOf(%v) = %v is not valid", list, span)
		}
		expectAgreement(t, alone, span)
		offset, _ := impl.OffsetOf(list)
		if got, ok := impl.MiddleOf(alone); got != offset || !ok {
			t.Errorf("MiddleOf(%v) = %d, %v, want %d", alone, got, ok, offset)
		}
	}
}

func TestP152SlowAnswersTellLess(t *testing.T) {
	for _, list := range someExchanges() {
		span, ok := impl.SpanOf(list)
		if !ok {
			continue
		}
		for _, by := range []int{1, 2, 3, 10, 999} {
			slower, valid := moved(list, 0, 0, 0, by)
			if !valid {
				continue
			}
			wider, ok := impl.SpanOf(slower)
			if ok && wider.High-wider.Low < span.High-span.Low {
				t.Errorf("SpanOf(%v) = %v, SpanOf(%v) = %v", slower, wider, list, span)
			}
		}
	}
}

func TestAskServer(t *testing.T) {
	for _, stamp := range someStamps() {
		if got, want := impl.AskServer(stamp), (impl.Packet{Mode: clientMode, Send: stamp}); got != want {
			t.Errorf("AskServer(%d) = %v, want %v", stamp, got, want)
		}
	}
	for _, stamp := range outside(0, lastStamp) {
		if got := impl.AskServer(stamp); got != (impl.Packet{}) {
			t.Errorf("AskServer(%d) = %v", stamp, got)
		}
	}
}

func TestP92QuestionsArePackets(t *testing.T) {
	for _, stamp := range someStamps() {
		p := impl.AskServer(stamp)
		if !impl.ValidPacket(p) || p.Send != stamp {
			t.Errorf("AskServer(%d) = %v", stamp, p)
		}
		if got, ok := impl.ParsePacket(impl.FormatPacket(p)); got != p || !ok {
			t.Errorf("ParsePacket(FormatPacket(%v)) = %v, %v", p, got, ok)
		}
	}
}

func TestAnswerClient(t *testing.T) {
	ask := impl.Packet{Mode: clientMode, Send: 77}
	full := impl.Packet{Leap: 3, Mode: clientMode, Stratum: 15, Poll: 17, Spread: mostSpread, Origin: lastStamp, Receive: lastStamp, Send: lastStamp}
	cases := []struct {
		ask      impl.Packet
		received int
		sent     int
		level    int
		spread   int
		want     impl.Packet
	}{
		{ask, 100, 110, levelLock, 5, impl.Packet{Mode: serverMode, Stratum: 1, Spread: 5, Origin: 77, Receive: 100, Send: 110}},
		{ask, 100, 110, levelHold, 5, impl.Packet{Mode: serverMode, Stratum: 1, Spread: 5, Origin: 77, Receive: 100, Send: 110}},
		{ask, 100, 110, levelNone, 5, impl.Packet{Leap: alarm, Mode: serverMode, Spread: 5, Origin: 77, Receive: 100, Send: 110}},
		// Sent when it is received, and one later.
		{ask, 100, 100, levelLock, 0, impl.Packet{Mode: serverMode, Stratum: 1, Origin: 77, Receive: 100, Send: 100}},
		{ask, 100, 101, levelLock, 0, impl.Packet{Mode: serverMode, Stratum: 1, Origin: 77, Receive: 100, Send: 101}},
		// The clock of the server is behind that of the client.
		{ask, 0, 0, levelLock, 1, impl.Packet{Mode: serverMode, Stratum: 1, Spread: 1, Origin: 77}},
		{ask, 0, lastStamp, levelLock, mostSpread, impl.Packet{Mode: serverMode, Stratum: 1, Spread: mostSpread, Origin: 77, Send: lastStamp}},
		{ask, lastStamp, lastStamp, levelHold, 1, impl.Packet{Mode: serverMode, Stratum: 1, Spread: 1, Origin: 77, Receive: lastStamp, Send: lastStamp}},
		// Of the question only Poll and Send are in the answer.
		{full, 3, 4, levelLock, 5, impl.Packet{Mode: serverMode, Stratum: 1, Poll: 17, Spread: 5, Origin: lastStamp, Receive: 3, Send: 4}},
		{full, 3, 4, levelNone, 5, impl.Packet{Leap: alarm, Mode: serverMode, Poll: 17, Spread: 5, Origin: lastStamp, Receive: 3, Send: 4}},
		{impl.Packet{Mode: clientMode}, 0, 0, levelNone, 0, impl.Packet{Leap: alarm, Mode: serverMode}},
	}
	for _, c := range cases {
		expectAnswer(t, c.ask, c.received, c.sent, c.level, c.spread, c.want)
	}
}

func TestAnswersToAllQuestions(t *testing.T) {
	for _, p := range somePackets() {
		for level := levelNone; level <= levelLock; level++ {
			if p.Mode != clientMode {
				expectNoAnswer(t, p, 100, 110, level, 5)
			}
			for _, spread := range []int{0, 1, 258, mostSpread - 1, mostSpread} {
				ask := p
				ask.Mode = clientMode
				want := impl.Packet{Mode: serverMode, Stratum: 1, Poll: p.Poll, Spread: spread, Origin: p.Send, Receive: p.Origin, Send: max(p.Origin, p.Receive)}
				if level == levelNone {
					want.Leap, want.Stratum = alarm, 0
				}
				expectAnswer(t, ask, want.Receive, want.Send, level, spread, want)
			}
		}
	}
}

// A question of every other mode, one that is not valid, and each of the other
// arguments beyond its limits.
func TestQuestionsWithoutAnswers(t *testing.T) {
	ask := impl.Packet{Mode: clientMode, Poll: 6, Send: 77}
	for mode := range mostMode + 1 {
		if mode == clientMode {
			continue
		}
		other := ask
		other.Mode = mode
		expectNoAnswer(t, other, 100, 110, levelLock, 5)
		expectNoAnswer(t, other, 100, 110, levelNone, 5)
	}
	for _, p := range wrongPackets() {
		expectNoAnswer(t, p, 100, 110, levelLock, 5)
		if p.Mode >= 0 && p.Mode <= mostMode {
			p.Mode = clientMode
		}
		expectNoAnswer(t, p, 100, 110, levelLock, 5)
	}
	for level := levelNone; level <= levelLock; level++ {
		for _, wrong := range outside(0, lastStamp) {
			expectNoAnswer(t, ask, wrong, wrong, level, 5)
			expectNoAnswer(t, ask, 0, wrong, level, 5)
			expectNoAnswer(t, ask, wrong, lastStamp, level, 5)
		}
		for _, spread := range append(outside(0, mostSpread), 1<<17) {
			expectNoAnswer(t, ask, 100, 110, level, spread)
		}
		// Sent before it is received.
		expectNoAnswer(t, ask, 100, 99, level, 5)
		expectNoAnswer(t, ask, 1, 0, level, 5)
		expectNoAnswer(t, ask, lastStamp, 0, level, 5)
		expectNoAnswer(t, ask, lastStamp, lastStamp-1, level, 5)
	}
	// LevelAt is -1 for a state that is not valid: no level.
	for _, level := range append(outside(levelNone, levelLock), impl.LevelAt(impl.State{Error: -1}, 5)) {
		expectNoAnswer(t, ask, 100, 110, level, 5)
	}
}

func TestP93AnswersHaveTheTimeOfTheQuestion(t *testing.T) {
	for _, stamp := range someStamps() {
		for level := levelNone; level <= levelLock; level++ {
			p, ok := impl.AnswerClient(impl.AskServer(stamp), 100, 110, level, 5)
			if p.Origin != stamp || !ok || !impl.ValidPacket(p) {
				t.Errorf("AnswerClient of AskServer(%d) = %v, %v", stamp, p, ok)
			}
		}
	}
}

func TestP156BadClocksRaiseAnAlarm(t *testing.T) {
	for _, stamp := range someStamps() {
		for _, spread := range []int{0, 5, mostSpread} {
			p, ok := impl.AnswerClient(impl.AskServer(stamp), 100, 110, levelNone, spread)
			if p.Leap != alarm || p.Stratum != 0 || !ok {
				t.Errorf("AnswerClient without a level = %v, %v", p, ok)
			}
			expectNotTaken(t, stamp, p, 120)
			expectNotTaken(t, stamp, p, stamp)
		}
	}
}

func TestTakeAnswer(t *testing.T) {
	cases := []struct {
		asked    int
		answer   impl.Packet
		received int
		want     []int
	}{
		{77, impl.Packet{Mode: serverMode, Stratum: 1, Spread: 5, Origin: 77, Receive: 100, Send: 110}, 120, []int{77, 100, 110, 120}},
		{77, impl.Packet{Mode: serverMode, Stratum: 1, Origin: 77, Receive: 100, Send: 100}, 120, []int{77, 100, 100, 120}},
		// At once, and by a clock that runs backwards.
		{77, impl.Packet{Mode: serverMode, Stratum: 1, Origin: 77, Receive: 100, Send: 110}, 77, []int{77, 100, 110, 77}},
		{77, impl.Packet{Mode: serverMode, Stratum: 1, Origin: 77, Receive: 100, Send: 110}, 76, []int{77, 100, 110, 76}},
		{77, impl.Packet{Mode: serverMode, Stratum: 1, Origin: 77, Receive: 100, Send: 110}, 0, []int{77, 100, 110, 0}},
		// Other numbers of the answer do not matter.
		{77, impl.Packet{Leap: 2, Mode: serverMode, Stratum: 15, Poll: 17, Spread: mostSpread, Origin: 77, Receive: 1, Send: 2}, 120, []int{77, 1, 2, 120}},
		{77, impl.Packet{Leap: 1, Mode: serverMode, Stratum: 2, Origin: 77, Receive: 1, Send: 2}, 120, []int{77, 1, 2, 120}},
		{0, impl.Packet{Mode: serverMode, Stratum: 1}, 0, []int{0, 0, 0, 0}},
		{lastStamp, impl.Packet{Mode: serverMode, Stratum: 1, Origin: lastStamp, Receive: lastStamp, Send: lastStamp}, lastStamp, []int{lastStamp, lastStamp, lastStamp, lastStamp}},
		{0, impl.Packet{Mode: serverMode, Stratum: 1, Send: lastStamp}, lastStamp, []int{0, 0, lastStamp, lastStamp}},
	}
	for _, c := range cases {
		expectTaken(t, c.asked, c.answer, c.received, c.want)
	}
}

func TestTakingAllPackets(t *testing.T) {
	for _, p := range somePackets() {
		for _, received := range []int{0, p.Origin, p.Send, lastStamp} {
			expectMaybeTaken(t, p.Origin, p, received)
			for mode := range mostMode + 1 {
				p.Mode = mode
				expectMaybeTaken(t, p.Origin, p, received)
			}
			p.Mode, p.Receive, p.Send = serverMode, min(p.Receive, p.Send), max(p.Receive, p.Send)
			expectMaybeTaken(t, p.Origin, p, received)
			expectMaybeTaken(t, p.Origin/2, p, received)
		}
	}
}

// An answer that is wrong for one reason only.
func TestAnswersThatAreNotTaken(t *testing.T) {
	good := impl.Packet{Mode: serverMode, Stratum: 1, Poll: 6, Spread: 5, Origin: 77, Receive: 100, Send: 110}
	expectTaken(t, 77, good, 120, []int{77, 100, 110, 120})
	for mode := range mostMode + 1 {
		if other := good; mode != serverMode {
			other.Mode = mode
			expectNotTaken(t, 77, other, 120)
		}
	}
	without := good
	without.Stratum = 0
	expectNotTaken(t, 77, without, 120)
	alarmed := good
	alarmed.Leap = alarm
	expectNotTaken(t, 77, alarmed, 120)
	for _, origin := range []int{0, 76, 78, lastStamp} {
		foreign := good
		foreign.Origin = origin
		expectNotTaken(t, 77, foreign, 120)
	}
	for _, sent := range []int{0, 99} {
		backward := good
		backward.Send = sent
		expectNotTaken(t, 77, backward, 120)
	}
	for _, received := range outside(0, lastStamp) {
		expectNotTaken(t, 77, good, received)
	}
	for _, asked := range outside(0, lastStamp) {
		expectNotTaken(t, asked, good, 120)
		own := good
		own.Origin = asked
		expectNotTaken(t, asked, own, 120)
	}
	for n, most := range mostOfNumbers() {
		for _, wrong := range append(outside(0, most), most+256) {
			p := good
			*numbersOf(&p)[n] = wrong
			expectNotTaken(t, 77, p, 120)
			expectNotTaken(t, p.Origin, p, 120)
		}
	}
}

func TestP94AnswersCanBeTaken(t *testing.T) {
	for _, list := range someExchanges() {
		list[1], list[2] = min(list[1], list[2]), max(list[1], list[2])
		for level := levelNone; level <= levelLock; level++ {
			p, ok := impl.AnswerClient(impl.AskServer(list[0]), list[1], list[2], level, 5)
			if !ok {
				t.Errorf("AnswerClient for %v fails", list)
			}
			if level == levelNone {
				expectNotTaken(t, list[0], p, list[3])
			} else {
				expectTaken(t, list[0], p, list[3], list)
			}
		}
	}
}

func TestP95OnlyAnswersToTheQuestionAreTaken(t *testing.T) {
	stamps := someStamps()
	for n, stamp := range stamps {
		p, _ := impl.AnswerClient(impl.AskServer(stamp), 100, 110, 1+n%2, 5)
		for _, other := range append([]int{0, stamp - 1, stamp + 1, lastStamp - stamp, lastStamp, p.Receive, p.Send}, stamps[:20]...) {
			if other != stamp {
				expectNotTaken(t, other, p, 120)
			}
		}
		expectTaken(t, stamp, p, 120, []int{stamp, 100, 110, 120})
	}
	// Who is taken has a level: neither an alarm nor the stratum 0.
	for _, p := range somePackets() {
		if _, ok := impl.TakeAnswer(p.Origin, p, 120); ok && (p.Leap == alarm || p.Stratum == 0 || p.Mode != serverMode) {
			t.Errorf("TakeAnswer of %v succeeds", p)
		}
	}
}

func TestP155LaterAnswersHaveLongerDelays(t *testing.T) {
	for _, list := range someExchanges() {
		p := impl.Packet{Mode: serverMode, Stratum: 1, Origin: list[0], Receive: min(list[1], list[2]), Send: max(list[1], list[2])}
		before := 0
		for _, later := range []int{0, 1, 2, 3, 16, 1000, farOffset} {
			if list[3]+later > lastStamp {
				break
			}
			taken, ok := impl.TakeAnswer(list[0], p, list[3]+later)
			delay := impl.DelayOf(taken)
			if !ok || delay < before {
				t.Errorf("DelayOf(%v) = %d, before that %d", taken, delay, before)
			}
			before = delay
		}
	}
}

func TestStampsOfExchangesAreNotChanged(t *testing.T) {
	for _, list := range append(someExchanges(), wrongExchanges()...) {
		kept := slices.Clone(list)
		impl.OffsetOf(list)
		impl.DelayOf(list)
		impl.SpanOf(list)
		if !slices.Equal(list, kept) {
			t.Errorf("%v became %v", kept, list)
		}
	}
}

// Only the four time stamps count, not what lies behind them in memory.
func TestStampsBehindTheListDoNotCount(t *testing.T) {
	place := []int{100, 250, 260, 130, 7, -1}
	expectExchange(t, place[:4], 140, 20)
	expectSpan(t, place[:4], impl.Span{Low: 130, High: 150})
}

func TestTakenStampsAreNew(t *testing.T) {
	p := impl.Packet{Mode: serverMode, Stratum: 1, Origin: 77, Receive: 100, Send: 110}
	first, _ := impl.TakeAnswer(77, p, 120)
	if len(first) != 4 {
		t.Fatalf("TakeAnswer = %v", first)
	}
	first[0], first[3] = 1, 2
	_ = append(first, 3)
	expectTaken(t, 77, p, 120, []int{77, 100, 110, 120})
}

// expectExchange checks the offset and the delay of four time stamps.
func expectExchange(t *testing.T, list []int, offset int, delay int) {
	t.Helper()
	if got, ok := impl.OffsetOf(list); got != offset || !ok {
		t.Errorf("OffsetOf(%v) = %d, %v, want %d", list, got, ok, offset)
	}
	if got := impl.DelayOf(list); got != delay {
		t.Errorf("DelayOf(%v) = %d, want %d", list, got, delay)
	}
}

// expectSpan checks the possible offsets of four time stamps.
func expectSpan(t *testing.T, list []int, want impl.Span) {
	t.Helper()
	if got, ok := impl.SpanOf(list); got != want || !ok {
		t.Errorf("SpanOf(%v) = %v, %v, want %v", list, got, ok, want)
	}
}

// expectNoSpan checks that time stamps have no span that is valid.
func expectNoSpan(t *testing.T, list []int) {
	t.Helper()
	if got, ok := impl.SpanOf(list); got != (impl.Span{}) || ok {
		t.Errorf("SpanOf(%v) = %v, %v", list, got, ok)
	}
}

// expectAnswer checks the answer to a question.
func expectAnswer(t *testing.T, p impl.Packet, received int, sent int, level int, spread int, want impl.Packet) {
	t.Helper()
	if got, ok := impl.AnswerClient(p, received, sent, level, spread); got != want || !ok {
		t.Errorf("AnswerClient(%v, %d, %d, %d, %d) = %v, %v, want %v", p, received, sent, level, spread, got, ok, want)
	}
}

// expectNoAnswer checks that a question is not answered.
func expectNoAnswer(t *testing.T, p impl.Packet, received int, sent int, level int, spread int) {
	t.Helper()
	if got, ok := impl.AnswerClient(p, received, sent, level, spread); got != (impl.Packet{}) || ok {
		t.Errorf("AnswerClient(%v, %d, %d, %d, %d) = %v, %v", p, received, sent, level, spread, got, ok)
	}
}

// expectTaken checks the time stamps of an answer that is taken.
func expectTaken(t *testing.T, asked int, p impl.Packet, received int, want []int) {
	t.Helper()
	if got, ok := impl.TakeAnswer(asked, p, received); !slices.Equal(got, want) || !ok {
		t.Errorf("TakeAnswer(%d, %v, %d) = %v, %v, want %v", asked, p, received, got, ok, want)
	}
}

// expectNotTaken checks that an answer is not taken.
func expectNotTaken(t *testing.T, asked int, p impl.Packet, received int) {
	t.Helper()
	if got, ok := impl.TakeAnswer(asked, p, received); len(got) > 0 || ok {
		t.Errorf("TakeAnswer(%d, %v, %d) = %v, %v", asked, p, received, got, ok)
	}
}

// expectMaybeTaken checks what becomes of a valid packet at valid time stamps.
func expectMaybeTaken(t *testing.T, asked int, p impl.Packet, received int) {
	t.Helper()
	if p.Mode == 4 && p.Stratum > 0 && p.Leap < 3 && p.Origin == asked && p.Receive <= p.Send {
		expectTaken(t, asked, p, received, []int{asked, p.Receive, p.Send, received})
	} else {
		expectNotTaken(t, asked, p, received)
	}
}

// plainExchange returns the offset and the delay of four time stamps as the
// document says them.
func plainExchange(list []int) (int, int) {
	offset := plainFloor(list[1]-list[0]+list[2]-list[3], 2)
	delay := list[3] - list[0] - list[2] + list[1]
	if delay < 0 {
		delay = 0
	}
	return offset, delay
}

// moved returns time stamps that are greater by some numbers, and whether they
// are time stamps.
func moved(list []int, by ...int) ([]int, bool) {
	other := slices.Clone(list)
	for n := range other {
		other[n] += by[n]
		if other[n] < 0 || other[n] > lastStamp {
			return nil, false
		}
	}
	return other, true
}

// someExchanges returns lists of four time stamps: all of a few with each
// other, at both ends of their limits, and thrown ones near each other.
func someExchanges() [][]int {
	var lists [][]int
	for _, few := range [][]int{{1000, 1001, 1004, 1010}, {0, 1, lastStamp - 1, lastStamp}, {0, farOffset, farOffset + 1, 2*farOffset + 1}} {
		for n := range 256 {
			lists = append(lists, []int{few[n/64], few[n/16%4], few[n/4%4], few[n%4]})
		}
	}
	var d dice
	for n := range 800 {
		width := []int{5, 100, farOffset, 3 * farOffset}[n%4]
		from := d.throw(lastCivil-10) * secondLong
		if n%8 == 7 {
			from = lastStamp - width
		}
		asked, received := from+d.throw(width), from+d.throw(width)
		lists = append(lists, []int{asked, received, received + d.throw(lastStamp-received+1)%1000, from + d.throw(width)})
	}
	return lists
}

// wrongExchanges returns lists that are not four time stamps.
func wrongExchanges() [][]int {
	lists := [][]int{nil, {}, {5}, {0, 0}, {0, 0, 0}, {100, 250, 260}, {0, 0, 0, 0, 0}, {100, 250, 260, 130, 140}, make([]int, 8), make([]int, 1000)}
	for _, good := range [][]int{{0, 0, 0, 0}, {100, 250, 260, 130}, {lastStamp, lastStamp, lastStamp, lastStamp}} {
		for n := range good {
			for _, wrong := range append(outside(0, lastStamp), math.MaxInt/2, math.MinInt/2) {
				list := slices.Clone(good)
				list[n] = wrong
				lists = append(lists, list)
			}
		}
	}
	for _, wrong := range outside(0, lastStamp) {
		lists = append(lists, []int{wrong, wrong, wrong, wrong})
	}
	return lists
}
