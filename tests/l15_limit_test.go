package tests

import (
	"slices"
	"testing"

	"loop.example/satelliteclock/impl"
)

func TestLimitsOfBuckets(t *testing.T) {
	if impl.MaxClient != lastClient || impl.MaxTokens != mostTokens || impl.TokenSeconds != tokenLong || impl.MaxBuckets != mostBuckets {
		t.Error("a limit of chapter 15 is not that of the document")
	}
}

func TestValidBuckets(t *testing.T) {
	for _, list := range bucketLists() {
		if !impl.ValidBuckets(list) {
			t.Errorf("%v is not valid", list)
		}
	}
	for _, list := range wrongBucketLists() {
		if impl.ValidBuckets(list) {
			t.Errorf("%v is valid", list)
		}
	}
}

func TestWrongBuckets(t *testing.T) {
	for _, list := range wrongBucketLists() {
		for _, at := range []int{0, 500, lastTime} {
			for _, client := range []int{-1, 0, 5, lastClient, lastClient + 1} {
				expectTokens(t, list, client, at, -1)
				expectNotAsked(t, list, client, at)
			}
			if got := impl.DropFull(list, at); got != nil {
				t.Errorf("DropFull(%v, %d) = %v", list, at, got)
			}
		}
	}
}

func TestP116BucketsCanBeLeftOut(t *testing.T) {
	for _, list := range bucketLists() {
		for n := range list {
			if fewer := slices.Delete(slices.Clone(list), n, n+1); !impl.ValidBuckets(fewer) {
				t.Errorf("%v is valid, %v is not", list, fewer)
			}
		}
	}
}

func TestTokensAt(t *testing.T) {
	cases := []struct {
		tokens int
		at     int
		want   int
	}{
		// At the time of the bucket, and before and behind the first token.
		{2, 1000, 2},
		{2, 1001, 2},
		{2, 1007, 2},
		{2, 1008, 3},
		{2, 1009, 3},
		{2, 1015, 3},
		{2, 1016, 4},
		{2, 1023, 4},
		// Just full, and long behind that.
		{2, 1024, 5},
		{2, 1025, 5},
		{2, 1032, 5},
		{2, 5000, 5},
		{2, lastTime, 5},
		// No token, and all tokens.
		{0, 1000, 0},
		{0, 1007, 0},
		{0, 1008, 1},
		{0, 1039, 4},
		{0, 1040, 5},
		{0, lastTime, 5},
		{4, 1007, 4},
		{4, 1008, 5},
		{5, 1000, 5},
		{5, 1008, 5},
		// Before the time of the bucket nothing comes back, and nothing goes.
		{2, 999, 2},
		{2, 992, 2},
		{2, 991, 2},
		{2, 0, 2},
		{0, 999, 0},
		{0, 0, 0},
		{5, 999, 5},
		{5, 0, 5},
	}
	for _, c := range cases {
		list := []impl.Bucket{{Client: 3, Tokens: 1, At: 7}, {Client: 7, Tokens: c.tokens, At: 1000}, {Client: 8, Tokens: 0, At: 2000}}
		expectTokens(t, list, 7, c.at, c.want)
		expectTokens(t, list[1:2], 7, c.at, c.want)
	}
}

func TestTokensAtTheEnds(t *testing.T) {
	expectTokens(t, []impl.Bucket{{}}, 0, 0, 0)
	expectTokens(t, []impl.Bucket{{}}, 0, 7, 0)
	expectTokens(t, []impl.Bucket{{}}, 0, 8, 1)
	expectTokens(t, []impl.Bucket{{}}, 0, lastTime, 5)
	late := []impl.Bucket{{Client: lastClient, Tokens: 1, At: lastTime - 8}}
	expectTokens(t, late, lastClient, lastTime, 2)
	expectTokens(t, late, lastClient, lastTime-1, 1)
	expectTokens(t, late, lastClient, lastTime-9, 1)
	last := []impl.Bucket{{Client: lastClient, Tokens: 0, At: lastTime}}
	expectTokens(t, last, lastClient, lastTime, 0)
	expectTokens(t, last, lastClient, 0, 0)
}

func TestAllTokens(t *testing.T) {
	for _, list := range bucketLists() {
		for _, client := range clientsNear(list) {
			for _, at := range timesOfBuckets(list) {
				expectTokens(t, list, client, at, plainTokens(list, client, at))
			}
		}
	}
}

func TestTokensAtWrongTimes(t *testing.T) {
	for _, list := range bucketLists() {
		for _, at := range outside(0, lastTime) {
			for _, client := range clientsNear(list) {
				expectTokens(t, list, client, at, -1)
			}
		}
	}
}

func TestP117TokensComeBack(t *testing.T) {
	for _, list := range bucketLists() {
		for _, client := range clientsNear(list) {
			before := 0
			for _, at := range timesOfBuckets(list) {
				tokens := impl.TokensAt(list, client, at)
				if tokens < before || tokens > mostTokens {
					t.Errorf("TokensAt(%v, %d, %d) = %d, earlier %d", list, client, at, tokens, before)
				}
				before = tokens
				if b := plainBucket(list, client); at >= b.At && at+tokenLong <= lastTime {
					expectTokens(t, list, client, at+tokenLong, min(tokens+1, mostTokens))
				}
			}
		}
	}
}

func TestP118NewClientsMayAsk(t *testing.T) {
	for _, list := range bucketLists() {
		for _, client := range append(outside(0, lastClient), clientsNear(list)...) {
			if slices.ContainsFunc(list, func(b impl.Bucket) bool { return b.Client == client }) {
				continue
			}
			for _, at := range []int{0, 1, 1000, lastTime} {
				expectTokens(t, list, client, at, 5)
			}
		}
	}
}

func TestTakeToken(t *testing.T) {
	list := []impl.Bucket{{Client: 3, Tokens: 0, At: 100}, {Client: 7, Tokens: 2, At: 1000}, {Client: 9, Tokens: 5, At: 50}}
	cases := []struct {
		client   int
		at       int
		want     []impl.Bucket
		answered bool
	}{
		// A client with tokens, at once, shortly before one comes back, and then.
		{7, 1000, []impl.Bucket{list[0], {Client: 7, Tokens: 1, At: 1000}, list[2]}, true},
		{7, 1007, []impl.Bucket{list[0], {Client: 7, Tokens: 1, At: 1007}, list[2]}, true},
		{7, 1008, []impl.Bucket{list[0], {Client: 7, Tokens: 2, At: 1008}, list[2]}, true},
		{7, 1024, []impl.Bucket{list[0], {Client: 7, Tokens: 4, At: 1024}, list[2]}, true},
		{7, lastTime, []impl.Bucket{list[0], {Client: 7, Tokens: 4, At: lastTime}, list[2]}, true},
		// A full bucket.
		{9, 50, []impl.Bucket{list[0], list[1], {Client: 9, Tokens: 4, At: 50}}, true},
		{9, 51, []impl.Bucket{list[0], list[1], {Client: 9, Tokens: 4, At: 51}}, true},
		// A client without tokens: nothing changes, until one came back.
		{3, 100, list, false},
		{3, 107, list, false},
		{3, 108, []impl.Bucket{{Client: 3, Tokens: 0, At: 108}, list[1], list[2]}, true},
		{3, 116, []impl.Bucket{{Client: 3, Tokens: 1, At: 116}, list[1], list[2]}, true},
		// A new client before the first one, between two, and behind the last one.
		{0, 20, []impl.Bucket{{Client: 0, Tokens: 4, At: 20}, list[0], list[1], list[2]}, true},
		{2, 0, []impl.Bucket{{Client: 2, Tokens: 4, At: 0}, list[0], list[1], list[2]}, true},
		{4, 20, []impl.Bucket{list[0], {Client: 4, Tokens: 4, At: 20}, list[1], list[2]}, true},
		{8, 2000, []impl.Bucket{list[0], list[1], {Client: 8, Tokens: 4, At: 2000}, list[2]}, true},
		{10, 20, []impl.Bucket{list[0], list[1], list[2], {Client: 10, Tokens: 4, At: 20}}, true},
		{lastClient, lastTime, []impl.Bucket{list[0], list[1], list[2], {Client: lastClient, Tokens: 4, At: lastTime}}, true},
	}
	for _, c := range cases {
		expectAsked(t, list, c.client, c.at, c.want, c.answered)
	}
	// Before the time of its own bucket a client cannot ask; those of others do not matter.
	expectNotAsked(t, list, 7, 999)
	expectNotAsked(t, list, 7, 0)
	expectNotAsked(t, list, 3, 99)
	expectNotAsked(t, list, 9, 49)
	expectNotAsked(t, list, 9, 0)
}

func TestFirstQuestions(t *testing.T) {
	for _, list := range [][]impl.Bucket{nil, {}} {
		for _, client := range []int{0, 1, 50, lastClient} {
			for _, at := range []int{0, 1, lastTime} {
				expectAsked(t, list, client, at, []impl.Bucket{{Client: client, Tokens: 4, At: at}}, true)
			}
		}
	}
}

// The seconds before a question are lost if it is answered, and kept if not.
func TestSecondsOfTokens(t *testing.T) {
	list := []impl.Bucket{{Client: 5, Tokens: 1, At: 100}}
	answered, _, _ := impl.TakeToken(list, 5, 107)
	expectTokens(t, answered, 5, 108, 0)
	expectTokens(t, answered, 5, 114, 0)
	expectTokens(t, answered, 5, 115, 1)
	empty := []impl.Bucket{{Client: 5, Tokens: 0, At: 100}}
	later, _, _ := impl.TakeToken(empty, 5, 107)
	expectTokens(t, later, 5, 107, 0)
	expectTokens(t, later, 5, 108, 1)
}

// When MaxBuckets have a bucket, only these may ask.
func TestNewClientsWithoutPlace(t *testing.T) {
	for _, tokens := range []int{0, 3, mostTokens} {
		var list []impl.Bucket
		for n := range mostBuckets {
			list = append(list, impl.Bucket{Client: 10 * (n + 1), Tokens: tokens, At: 100})
		}
		for _, client := range []int{0, 9, 11, 45, 79, 81, lastClient} {
			for _, at := range []int{0, 100, 200, lastTime} {
				expectNotAsked(t, list, client, at)
				expectTokens(t, list, client, at, 5)
			}
			// With one bucket less there is a place again.
			for n := range list {
				fewer := slices.Delete(slices.Clone(list), n, n+1)
				want, answered, ok := plainTake(fewer, client, 200)
				if !ok || !answered {
					t.Errorf("%d may not ask with %v", client, fewer)
				}
				expectAsked(t, fewer, client, 200, want, true)
			}
		}
		for n, b := range list {
			want := slices.Clone(list)
			want[n] = impl.Bucket{Client: b.Client, Tokens: 4, At: 200}
			expectAsked(t, list, b.Client, 200, want, true)
		}
	}
}

func TestAllQuestions(t *testing.T) {
	for _, list := range bucketLists() {
		for _, client := range clientsNear(list) {
			for _, at := range timesOfBuckets(list) {
				want, answered, ok := plainTake(list, client, at)
				if !ok {
					expectNotAsked(t, list, client, at)
					continue
				}
				expectAsked(t, list, client, at, want, answered)
				if !impl.ValidBuckets(want) {
					t.Errorf("TakeToken(%v, %d, %d) = %v is not valid", list, client, at, want)
				}
			}
		}
	}
}

func TestWrongQuestions(t *testing.T) {
	for _, list := range bucketLists() {
		for _, client := range outside(0, lastClient) {
			for _, at := range []int{0, 1000, lastTime} {
				expectNotAsked(t, list, client, at)
			}
		}
		for _, at := range outside(0, lastTime) {
			for _, client := range clientsNear(list) {
				expectNotAsked(t, list, client, at)
			}
		}
	}
}

func TestP119AnswersCostAToken(t *testing.T) {
	for _, q := range goodQuestions() {
		after, answered, ok := impl.TakeToken(q.list, q.client, q.at)
		if !ok {
			t.Errorf("TakeToken(%v, %d, %d) fails", q.list, q.client, q.at)
		}
		tokens := impl.TokensAt(q.list, q.client, q.at)
		if answered != (tokens > 0) {
			t.Errorf("TakeToken(%v, %d, %d) is answered: %v", q.list, q.client, q.at, answered)
		}
		if answered {
			tokens--
		}
		expectTokens(t, after, q.client, q.at, tokens)
	}
}

func TestP120OtherClientsAreNotAsked(t *testing.T) {
	for _, q := range goodQuestions() {
		after, _, ok := impl.TakeToken(q.list, q.client, q.at)
		isAsked := func(b impl.Bucket) bool { return b.Client == q.client }
		before := slices.DeleteFunc(slices.Clone(q.list), isAsked)
		if others := slices.DeleteFunc(slices.Clone(after), isAsked); !ok || !slices.Equal(others, before) {
			t.Errorf("TakeToken(%v, %d, %d) = %v, %v", q.list, q.client, q.at, after, ok)
		}
	}
}

func TestP121NobodyAsksTooOften(t *testing.T) {
	for _, q := range goodQuestions() {
		if slices.ContainsFunc(q.list, func(b impl.Bucket) bool { return b.Client == q.client }) {
			continue
		}
		list := q.list
		for n := range mostTokens + 3 {
			after, answered, ok := impl.TakeToken(list, q.client, q.at)
			if !ok || answered != (n < mostTokens) {
				t.Errorf("question %d of the new client %d at %d: %v, %v", n, q.client, q.at, answered, ok)
			}
			list = after
		}
	}
}

func TestP169WhoWaitsIsAnswered(t *testing.T) {
	for _, q := range goodQuestions() {
		if q.at+2*tokenLong > lastTime {
			continue
		}
		list := q.list
		for range mostTokens + 1 {
			after, _, ok := impl.TakeToken(list, q.client, q.at)
			if !ok {
				t.Errorf("TakeToken(%v, %d, %d) fails", list, q.client, q.at)
			}
			list = after
		}
		// If the client was not answered at all, its bucket is older.
		since := plainBucket(list, q.client).At
		expectAsked(t, list, q.client, since+tokenLong-1, list, false)
		for _, at := range []int{since + tokenLong, q.at + tokenLong, q.at + 2*tokenLong, lastTime} {
			if after, answered, ok := impl.TakeToken(list, q.client, at); !ok || !answered {
				t.Errorf("TakeToken(%v, %d, %d) = %v, %v, %v", list, q.client, at, after, answered, ok)
			}
		}
	}
}

func TestDropFull(t *testing.T) {
	list := []impl.Bucket{{Client: 3, Tokens: 0, At: 100}, {Client: 7, Tokens: 4, At: 132}, {Client: 8, Tokens: 5, At: 2000}, {Client: 20, Tokens: 3, At: 2000}}
	cases := []struct {
		at   int
		want []impl.Bucket
	}{
		// Full although its time is not there yet.
		{0, []impl.Bucket{list[0], list[1], list[3]}},
		{132, []impl.Bucket{list[0], list[1], list[3]}},
		// The first two become full at once.
		{139, []impl.Bucket{list[0], list[1], list[3]}},
		{140, []impl.Bucket{list[3]}},
		{1999, []impl.Bucket{list[3]}},
		{2015, []impl.Bucket{list[3]}},
		{2016, nil},
		{lastTime, nil},
	}
	for _, c := range cases {
		expectDropped(t, list, c.at, c.want)
	}
	for _, at := range []int{0, 100, lastTime} {
		expectDropped(t, nil, at, nil)
		expectDropped(t, []impl.Bucket{}, at, nil)
	}
}

// A bucket that is just full, and one second before that, with any tokens.
func TestJustFull(t *testing.T) {
	for tokens := range mostTokens {
		list := []impl.Bucket{{Client: 42, Tokens: tokens, At: 500}}
		full := 500 + (mostTokens-tokens)*tokenLong
		expectDropped(t, list, 0, list)
		expectDropped(t, list, 500, list)
		expectDropped(t, list, full-1, list)
		expectDropped(t, list, full, nil)
		expectDropped(t, list, full+1, nil)
	}
	full := []impl.Bucket{{Client: 42, Tokens: mostTokens, At: 500}}
	for _, at := range []int{0, 499, 500, 501, lastTime} {
		expectDropped(t, full, at, nil)
	}
}

func TestP122FullBucketsAreNotNeeded(t *testing.T) {
	for _, list := range bucketLists() {
		times := timesOfBuckets(list)
		for n, at := range times {
			after := impl.DropFull(list, at)
			for _, client := range clientsNear(list) {
				for _, later := range times[n:] {
					expectTokens(t, after, client, later, impl.TokensAt(list, client, later))
				}
			}
		}
	}
}

func TestP153BucketsThatAreNotFullStay(t *testing.T) {
	for _, list := range bucketLists() {
		for _, at := range timesOfBuckets(list) {
			var want []impl.Bucket
			for _, b := range list {
				if impl.TokensAt(list, b.Client, at) < mostTokens {
					want = append(want, b)
				}
			}
			expectDropped(t, list, at, want)
		}
	}
}

func TestDropFullAtWrongTimes(t *testing.T) {
	for _, list := range bucketLists() {
		for _, at := range outside(0, lastTime) {
			if got := impl.DropFull(list, at); got != nil {
				t.Errorf("DropFull(%v, %d) = %v", list, at, got)
			}
		}
	}
}

func TestBucketsAreNotChanged(t *testing.T) {
	lists := append(bucketLists(), wrongBucketLists()...)
	for n, kept := range append(bucketLists(), wrongBucketLists()...) {
		list := lists[n]
		impl.ValidBuckets(list)
		for _, at := range []int{0, 1000, lastTime} {
			for _, client := range clientsNear(list) {
				impl.TokensAt(list, client, at)
				impl.TakeToken(list, client, at)
			}
			impl.DropFull(list, at)
		}
		if !slices.Equal(list, kept) {
			t.Errorf("%v became %v", kept, list)
		}
	}
}

// A list may have room behind it that belongs to somebody else.
func TestResultsOfBucketsAreNew(t *testing.T) {
	for size := range mostBuckets + 1 {
		place := make([]impl.Bucket, 0, 2*mostBuckets)
		for n := range size + 1 {
			place = append(place, impl.Bucket{Client: 2 * n})
		}
		kept := slices.Clone(place)
		list := place[:size]
		asked, _, _ := impl.TakeToken(list, 0, lastTime)
		later, _, _ := impl.TakeToken(list, 0, 0)
		added, _, _ := impl.TakeToken(list, lastClient, lastTime)
		for _, result := range [][]impl.Bucket{asked, later, added, impl.DropFull(list, 0)} {
			for n := range result {
				result[n] = impl.Bucket{Client: -1}
			}
			_ = append(result, impl.Bucket{Client: -1})
			if !slices.Equal(place, kept) {
				t.Errorf("a result shares memory with %v", kept)
			}
		}
	}
}

// What one client asked is not known without the buckets.
func TestBucketsKeepNoState(t *testing.T) {
	for range 2 * mostTokens {
		expectAsked(t, nil, 7, 100, []impl.Bucket{{Client: 7, Tokens: 4, At: 100}}, true)
		expectTokens(t, nil, 7, 100, 5)
	}
}

// expectTokens checks the tokens of a client.
func expectTokens(t *testing.T, list []impl.Bucket, client int, at int, want int) {
	t.Helper()
	if got := impl.TokensAt(list, client, at); got != want {
		t.Errorf("TokensAt(%v, %d, %d) = %d, want %d", list, client, at, got, want)
	}
}

// expectAsked checks the buckets after a client has asked, and whether it is
// answered.
func expectAsked(t *testing.T, list []impl.Bucket, client int, at int, want []impl.Bucket, answered bool) {
	t.Helper()
	if got, gotAnswered, ok := impl.TakeToken(list, client, at); !slices.Equal(got, want) || gotAnswered != answered || !ok {
		t.Errorf("TakeToken(%v, %d, %d) = %v, %v, %v, want %v, %v", list, client, at, got, gotAnswered, ok, want, answered)
	}
}

// expectNotAsked checks that a client cannot ask.
func expectNotAsked(t *testing.T, list []impl.Bucket, client int, at int) {
	t.Helper()
	if got, answered, ok := impl.TakeToken(list, client, at); got != nil || answered || ok {
		t.Errorf("TakeToken(%v, %d, %d) = %v, %v, %v", list, client, at, got, answered, ok)
	}
}

// expectDropped checks the buckets that are not full.
func expectDropped(t *testing.T, list []impl.Bucket, at int, want []impl.Bucket) {
	t.Helper()
	if got := impl.DropFull(list, at); !slices.Equal(got, want) {
		t.Errorf("DropFull(%v, %d) = %v, want %v", list, at, got, want)
	}
}

// plainBucket returns the bucket of a client, or for one without a bucket one
// that is full from the beginning.
func plainBucket(list []impl.Bucket, client int) impl.Bucket {
	for _, b := range list {
		if b.Client == client {
			return b
		}
	}
	return impl.Bucket{Client: client, Tokens: 5}
}

// plainTokens returns the tokens of a client as the document says them: they
// come back one by one.
func plainTokens(list []impl.Bucket, client int, at int) int {
	b := plainBucket(list, client)
	for b.Tokens < 5 && b.At+8 <= at {
		b.Tokens++
		b.At += 8
	}
	return b.Tokens
}

// plainTake returns valid buckets after a client has asked, as the document
// says them.
func plainTake(list []impl.Bucket, client int, at int) ([]impl.Bucket, bool, bool) {
	if at < plainBucket(list, client).At {
		return nil, false, false
	}
	tokens := plainTokens(list, client, at)
	if tokens == 0 {
		return list, false, true
	}
	var after []impl.Bucket
	for _, b := range list {
		if b.Client < client {
			after = append(after, b)
		}
	}
	after = append(after, impl.Bucket{Client: client, Tokens: tokens - 1, At: at})
	for _, b := range list {
		if b.Client > client {
			after = append(after, b)
		}
	}
	if len(after) > 8 {
		return nil, false, false
	}
	return after, true, true
}

// question is a client that may ask at a time, because it did not ask later
// and has a bucket, or there is place for one.
type question struct {
	list   []impl.Bucket
	client int
	at     int
}

// goodQuestions returns questions that do not fail.
func goodQuestions() []question {
	var questions []question
	for _, list := range bucketLists() {
		for _, client := range clientsNear(list) {
			for _, at := range timesOfBuckets(list) {
				if _, _, ok := plainTake(list, client, at); ok {
					questions = append(questions, question{list, client, at})
				}
			}
		}
	}
	return questions
}

// clientsNear returns the clients of buckets, those beside them, and the first
// and the last one; only valid ones.
func clientsNear(list []impl.Bucket) []int {
	clients := []int{0, lastClient}
	for _, b := range list {
		for _, beside := range []int{-1, 0, 1} {
			if client := b.Client + beside; client >= 0 && client <= lastClient {
				clients = append(clients, client)
			}
		}
	}
	slices.Sort(clients)
	return slices.Compact(clients)
}

// timesOfBuckets returns the first and the last time, and those at which
// something happens in buckets, ascending: a second before, then, and a second
// later.
func timesOfBuckets(list []impl.Bucket) []int {
	times := []int{0, lastTime}
	for _, b := range list {
		for _, later := range []int{-tokenLong, 0, tokenLong, (mostTokens - b.Tokens) * tokenLong} {
			for at := b.At + later - 1; at <= b.At+later+1; at++ {
				if at >= 0 && at <= lastTime {
					times = append(times, at)
				}
			}
		}
	}
	slices.Sort(times)
	return slices.Compact(times)
}

// bucketLists returns valid buckets of every number.
func bucketLists() [][]impl.Bucket {
	lists := [][]impl.Bucket{
		nil,
		{},
		{{}},
		{{Client: lastClient, Tokens: mostTokens, At: lastTime}},
		{{Client: 0, Tokens: mostTokens}, {Client: lastClient, At: lastTime}},
		{{Client: 50, At: lastTime - 1}, {Client: 51, Tokens: 1, At: lastTime - tokenLong}},
	}
	var first, last []impl.Bucket
	for n := range mostBuckets {
		first = append(first, impl.Bucket{Client: n, Tokens: n % (mostTokens + 1), At: 10 * n})
		last = append(last, impl.Bucket{Client: lastClient - mostBuckets + 1 + n, Tokens: (n + 3) % (mostTokens + 1), At: lastTime - 5*n})
	}
	lists = append(lists, first, last)
	var d dice
	for n := range 90 {
		var list []impl.Bucket
		client := -1
		for range n % (mostBuckets + 1) {
			client += 1 + d.throw([]int{1, 3, 12}[n/9%3])
			at := d.throw([]int{30, 1000, 1000000}[n/27%3])
			list = append(list, impl.Bucket{Client: client, Tokens: d.throw(mostTokens + 1), At: at})
		}
		lists = append(lists, list)
	}
	return lists
}

// wrongBucketLists returns buckets that are not valid, each list for one
// reason.
func wrongBucketLists() [][]impl.Bucket {
	var full []impl.Bucket
	for n := range mostBuckets {
		full = append(full, impl.Bucket{Client: 5 * (n + 1), Tokens: n % (mostTokens + 1), At: 100 * n})
	}
	lists := [][]impl.Bucket{append(slices.Clone(full), impl.Bucket{Client: lastClient, Tokens: 1, At: 900})}
	for n, right := range full {
		var wrong []impl.Bucket
		clients := outside(0, lastClient)
		if n > 0 {
			clients = append(clients, full[n-1].Client, full[n-1].Client-1, 0)
		}
		if n < mostBuckets-1 {
			clients = append(clients, full[n+1].Client, full[n+1].Client+1, lastClient)
		}
		for _, client := range clients {
			wrong = append(wrong, impl.Bucket{Client: client, Tokens: right.Tokens, At: right.At})
		}
		for _, tokens := range outside(0, mostTokens) {
			wrong = append(wrong, impl.Bucket{Client: right.Client, Tokens: tokens, At: right.At})
		}
		for _, at := range outside(0, lastTime) {
			wrong = append(wrong, impl.Bucket{Client: right.Client, Tokens: right.Tokens, At: at})
		}
		for _, b := range wrong {
			list := slices.Clone(full)
			list[n] = b
			lists = append(lists, list)
		}
	}
	backward := slices.Clone(full)
	slices.Reverse(backward)
	return append(lists, backward,
		[]impl.Bucket{{Client: -1}},
		[]impl.Bucket{{Client: lastClient + 1}},
		[]impl.Bucket{{Tokens: -1}},
		[]impl.Bucket{{Tokens: mostTokens + 1}},
		[]impl.Bucket{{At: -1}},
		[]impl.Bucket{{At: lastTime + 1}},
		[]impl.Bucket{{}, {}},
		[]impl.Bucket{{Client: 5}, {Client: 5}},
		[]impl.Bucket{{Client: 6}, {Client: 5}},
		make([]impl.Bucket, 100))
}
