package tests

import (
	"bytes"
	"math"
	"slices"
	"testing"

	"loop.example/satelliteclock/impl"
)

func TestLimitsOfPackets(t *testing.T) {
	if impl.MaxSpread != mostSpread || impl.MaxCivil != lastCivil || impl.MaxStamp != lastStamp || impl.PacketBytes != packetLong || impl.PacketVersion != 4 {
		t.Error("a limit of chapter 10 is not that of the document")
	}
}

func TestValidPacket(t *testing.T) {
	for _, p := range somePackets() {
		if !impl.ValidPacket(p) {
			t.Errorf("%v is not valid", p)
		}
	}
	for _, p := range wrongPackets() {
		if impl.ValidPacket(p) {
			t.Errorf("%v is valid", p)
		}
	}
}

func TestFormatPacket(t *testing.T) {
	cases := []struct {
		packet impl.Packet
		want   []byte
	}{
		{impl.Packet{}, []byte{32, 0, 0, 0, 0, 0, 0, 0, 0, 0, 0, 0, 0, 0, 0, 0, 0, 0, 0, 0, 0, 0, 0}},
		{impl.Packet{Leap: 1, Mode: 3, Stratum: 2, Poll: 6, Spread: 258, Origin: 1, Receive: 256, Send: 5}, []byte{99, 2, 6, 1, 2, 0, 0, 0, 0, 0, 1, 0, 0, 0, 0, 1, 0, 0, 0, 0, 0, 0, 5}},
		// Each number alone.
		{impl.Packet{Leap: 1}, []byte{96, 0, 0, 0, 0, 0, 0, 0, 0, 0, 0, 0, 0, 0, 0, 0, 0, 0, 0, 0, 0, 0, 0}},
		{impl.Packet{Leap: 3}, []byte{224, 0, 0, 0, 0, 0, 0, 0, 0, 0, 0, 0, 0, 0, 0, 0, 0, 0, 0, 0, 0, 0, 0}},
		{impl.Packet{Mode: 7}, []byte{39, 0, 0, 0, 0, 0, 0, 0, 0, 0, 0, 0, 0, 0, 0, 0, 0, 0, 0, 0, 0, 0, 0}},
		{impl.Packet{Stratum: 15}, []byte{32, 15, 0, 0, 0, 0, 0, 0, 0, 0, 0, 0, 0, 0, 0, 0, 0, 0, 0, 0, 0, 0, 0}},
		{impl.Packet{Poll: 17}, []byte{32, 0, 17, 0, 0, 0, 0, 0, 0, 0, 0, 0, 0, 0, 0, 0, 0, 0, 0, 0, 0, 0, 0}},
		{impl.Packet{Spread: 255}, []byte{32, 0, 0, 0, 255, 0, 0, 0, 0, 0, 0, 0, 0, 0, 0, 0, 0, 0, 0, 0, 0, 0, 0}},
		{impl.Packet{Spread: 256}, []byte{32, 0, 0, 1, 0, 0, 0, 0, 0, 0, 0, 0, 0, 0, 0, 0, 0, 0, 0, 0, 0, 0, 0}},
		{impl.Packet{Spread: mostSpread}, []byte{32, 0, 0, 255, 255, 0, 0, 0, 0, 0, 0, 0, 0, 0, 0, 0, 0, 0, 0, 0, 0, 0, 0}},
		{impl.Packet{Origin: 0x010203040506}, []byte{32, 0, 0, 0, 0, 1, 2, 3, 4, 5, 6, 0, 0, 0, 0, 0, 0, 0, 0, 0, 0, 0, 0}},
		{impl.Packet{Receive: 0x010203040506}, []byte{32, 0, 0, 0, 0, 0, 0, 0, 0, 0, 0, 1, 2, 3, 4, 5, 6, 0, 0, 0, 0, 0, 0}},
		{impl.Packet{Send: 0x010203040506}, []byte{32, 0, 0, 0, 0, 0, 0, 0, 0, 0, 0, 0, 0, 0, 0, 0, 0, 1, 2, 3, 4, 5, 6}},
		// All numbers at their limits.
		{impl.Packet{Leap: 3, Mode: 7, Stratum: 15, Poll: 17, Spread: mostSpread, Origin: lastStamp, Receive: lastStamp, Send: lastStamp}, []byte{231, 15, 17, 255, 255, 181, 230, 33, 3, 194, 63, 181, 230, 33, 3, 194, 63, 181, 230, 33, 3, 194, 63}},
	}
	for _, c := range cases {
		expectPacket(t, c.packet, c.want)
	}
}

func TestFormatsOfAllPackets(t *testing.T) {
	for _, p := range somePackets() {
		expectPacket(t, p, plainBytes(p))
	}
}

func TestP81PacketsHaveBytes(t *testing.T) {
	for _, p := range somePackets() {
		if got := impl.FormatPacket(p); len(got) != packetLong {
			t.Errorf("%v has %d bytes", p, len(got))
		}
	}
	for _, p := range wrongPackets() {
		if got := impl.FormatPacket(p); len(got) != 0 {
			t.Errorf("%v is not valid and has the bytes %v", p, got)
		}
	}
}

func TestP82PacketsLoseNothing(t *testing.T) {
	for _, p := range somePackets() {
		b := impl.FormatPacket(p)
		if got, ok := impl.ParsePacket(b); got != p || !ok {
			t.Errorf("ParsePacket(%v) = %v, %v, want %v", b, got, ok, p)
		}
	}
}

func TestP83PacketsHaveOneForm(t *testing.T) {
	var d dice
	accepted := 0
	for n := range 20000 {
		b := make([]byte, packetLong)
		for i := range b {
			b[i] = byte(d.throw(256))
		}
		// Most thrown bytes are no packet; some of these nearly are one.
		if n%2 == 0 {
			b[0] = b[0]&^0b00111000 | 4<<3
			b[1], b[2] = b[1]%17, b[2]%20
			b[5], b[11], b[17] = b[5]%184, b[11]%184, b[17]%184
		}
		p, ok := impl.ParsePacket(b)
		if want, wantOk := plainPacket(b); p != want || ok != wantOk {
			t.Errorf("ParsePacket(%v) = %v, %v, want %v, %v", b, p, ok, want, wantOk)
		}
		if !ok {
			continue
		}
		accepted++
		if got := impl.FormatPacket(p); !bytes.Equal(got, b) {
			t.Errorf("FormatPacket of ParsePacket(%v) = %v", b, got)
		}
	}
	if accepted < 1000 {
		t.Errorf("only %d packets", accepted)
	}
}

func TestP84PacketsHaveAVersion(t *testing.T) {
	for _, p := range somePackets() {
		if got := impl.FormatPacket(p); len(got) == 0 || int(got[0]) != p.Leap*64+4*8+p.Mode {
			t.Errorf("FormatPacket(%v) = %v", p, got)
		}
	}
}

// Of all first bytes those with the version are accepted.
func TestFirstBytes(t *testing.T) {
	for _, p := range []impl.Packet{{}, {Stratum: 2, Poll: 6, Spread: 258, Origin: 1, Receive: 256, Send: 5}} {
		for first := range 256 {
			b := plainBytes(p)
			b[0] = byte(first)
			if first/8%8 != 4 {
				expectNoPacket(t, b)
				continue
			}
			want := p
			want.Leap, want.Mode = first/64, first%8
			if got, ok := impl.ParsePacket(b); got != want || !ok {
				t.Errorf("ParsePacket(%v) = %v, %v, want %v", b, got, ok, want)
			}
		}
	}
}

// Bytes can say numbers beyond their limits.
func TestBytesBeyondLimits(t *testing.T) {
	for _, p := range somePackets() {
		for value := range 256 {
			b := plainBytes(p)
			b[1] = byte(value)
			expectAccepted(t, b, value <= mostStratum)
			b = plainBytes(p)
			b[2] = byte(value)
			expectAccepted(t, b, value <= mostPoll)
		}
		for _, at := range []int{5, 11, 17} {
			for _, stamp := range []int{0, 1, lastStamp - 1, lastStamp} {
				b := plainBytes(p)
				copy(b[at:at+6], plainDigits(stamp, 6))
				expectAccepted(t, b, true)
			}
			for _, stamp := range []int{lastStamp + 1, lastStamp + 256, 0xb60000000000, 0xffffffffffff} {
				b := plainBytes(p)
				copy(b[at:at+6], plainDigits(stamp, 6))
				expectNoPacket(t, b)
			}
		}
	}
}

// Lost and added bytes of every number, also of all of it, and of all numbers.
func TestLostAndAddedBytes(t *testing.T) {
	expectNoPacket(t, nil)
	expectNoPacket(t, []byte{})
	for _, p := range somePackets() {
		b := plainBytes(p)
		for at := range packetLong {
			expectNoPacket(t, slices.Delete(slices.Clone(b), at, at+1))
			expectNoPacket(t, b[:at])
			expectNoPacket(t, b[at+1:])
			for _, more := range []byte{0, 1, 32, b[at], 255} {
				expectNoPacket(t, slices.Insert(slices.Clone(b), at, more))
			}
		}
		for _, ends := range [][2]int{{0, 1}, {1, 2}, {2, 3}, {3, 5}, {5, 11}, {11, 17}, {17, 23}} {
			expectNoPacket(t, slices.Delete(slices.Clone(b), ends[0], ends[1]))
			expectNoPacket(t, slices.Insert(slices.Clone(b), ends[0], b[ends[0]:ends[1]]...))
		}
		expectNoPacket(t, append(slices.Clone(b), 0))
		expectNoPacket(t, append(slices.Clone(b), b...))
	}
	expectNoPacket(t, make([]byte, packetLong))
	expectNoPacket(t, append([]byte{32}, make([]byte, 1000)...))
}

// What was formatted before stays when other bytes of the packet change.
func TestBytesOfPacketsAreNew(t *testing.T) {
	for _, p := range somePackets() {
		first, second := impl.FormatPacket(p), impl.FormatPacket(p)
		for i := range first {
			first[i] = 77
		}
		_ = append(first, 77)
		if want := plainBytes(p); !bytes.Equal(second, want) {
			t.Errorf("FormatPacket(%v) shares memory: %v", p, second)
		}
		expectPacket(t, p, plainBytes(p))
	}
}

func TestBytesAreNotChanged(t *testing.T) {
	for _, p := range somePackets() {
		place := append(plainBytes(p), 1, 2, 3)
		kept := slices.Clone(place)
		for size := range len(place) + 1 {
			impl.ParsePacket(place[:size])
			if !bytes.Equal(place, kept) {
				t.Errorf("%v became %v", kept, place)
			}
		}
	}
}

func TestStampOf(t *testing.T) {
	cases := []struct {
		civil  int
		micros int
		want   int
	}{
		{0, 0, 0},
		{0, 1, 1},
		{0, lastMicro, 999999},
		{1, 0, 1000000},
		{3, 5, 3000005},
		{lastCivil, 0, 200000000000000},
		{lastCivil, lastMicro, lastStamp},
		{lastCivil - 1, lastMicro, 199999999999999},
	}
	for _, c := range cases {
		expectStamp(t, c.civil, c.micros, c.want)
		expectSplit(t, c.want, c.civil, c.micros)
	}
}

func TestWrongStamps(t *testing.T) {
	for _, civil := range outside(0, lastCivil) {
		for _, micros := range someMicros() {
			expectStamp(t, civil, micros, -1)
		}
	}
	for _, micros := range append(outside(0, lastMicro), secondLong) {
		for _, civil := range someCivils() {
			expectStamp(t, civil, micros, -1)
		}
	}
	// Numbers that would be a time stamp together.
	expectStamp(t, -1, secondLong, -1)
	expectStamp(t, 1, -1, -1)
	expectStamp(t, lastCivil+1, -1, -1)
	for _, stamp := range append(outside(0, lastStamp), math.MaxInt/2, math.MinInt/2, -secondLong) {
		expectNoSplit(t, stamp)
	}
}

func TestP85TimeStampsCanBeSplit(t *testing.T) {
	for _, civil := range someCivils() {
		for _, micros := range someMicros() {
			expectStamp(t, civil, micros, civil*1000000+micros)
			expectSplit(t, impl.StampOf(civil, micros), civil, micros)
		}
	}
}

func TestP86TimeStampsAreTimes(t *testing.T) {
	for _, stamp := range someStamps() {
		civil, micros, ok := impl.SplitStamp(stamp)
		if !ok {
			t.Errorf("SplitStamp(%d) fails", stamp)
		}
		expectStamp(t, civil, micros, stamp)
	}
}

func TestP157MicrosecondsFollowEachOther(t *testing.T) {
	for _, stamp := range someStamps() {
		if stamp == lastStamp {
			continue
		}
		civil, micros, _ := impl.SplitStamp(stamp)
		if micros++; micros == secondLong {
			civil, micros = civil+1, 0
		}
		expectSplit(t, stamp+1, civil, micros)
	}
}

// expectPacket checks the bytes of a packet, and the packet of the bytes.
func expectPacket(t *testing.T, p impl.Packet, want []byte) {
	t.Helper()
	if got := impl.FormatPacket(p); !bytes.Equal(got, want) {
		t.Errorf("FormatPacket(%v) = %v, want %v", p, got, want)
	}
	if got, ok := impl.ParsePacket(want); got != p || !ok {
		t.Errorf("ParsePacket(%v) = %v, %v, want %v", want, got, ok, p)
	}
}

// expectNoPacket checks that bytes are no packet.
func expectNoPacket(t *testing.T, b []byte) {
	t.Helper()
	if got, ok := impl.ParsePacket(b); got != (impl.Packet{}) || ok {
		t.Errorf("ParsePacket(%v) = %v, %v", b, got, ok)
	}
}

// expectAccepted checks whether bytes are a packet, which then has these bytes.
func expectAccepted(t *testing.T, b []byte, want bool) {
	t.Helper()
	if !want {
		expectNoPacket(t, b)
		return
	}
	p, ok := impl.ParsePacket(b)
	if got := impl.FormatPacket(p); !ok || !bytes.Equal(got, b) {
		t.Errorf("ParsePacket(%v) = %v, %v", b, p, ok)
	}
}

// expectStamp checks a time stamp.
func expectStamp(t *testing.T, civil int, micros int, want int) {
	t.Helper()
	if got := impl.StampOf(civil, micros); got != want {
		t.Errorf("StampOf(%d, %d) = %d, want %d", civil, micros, got, want)
	}
}

// expectSplit checks the parts of a time stamp.
func expectSplit(t *testing.T, stamp int, civil int, micros int) {
	t.Helper()
	if gotCivil, gotMicros, ok := impl.SplitStamp(stamp); gotCivil != civil || gotMicros != micros || !ok {
		t.Errorf("SplitStamp(%d) = %d, %d, %v, want %d, %d", stamp, gotCivil, gotMicros, ok, civil, micros)
	}
}

// expectNoSplit checks that a number is no time stamp.
func expectNoSplit(t *testing.T, stamp int) {
	t.Helper()
	if civil, micros, ok := impl.SplitStamp(stamp); civil != 0 || micros != 0 || ok {
		t.Errorf("SplitStamp(%d) = %d, %d, %v", stamp, civil, micros, ok)
	}
}

// plainDigits returns the digits of the base 256 of a number, the highest one first.
func plainDigits(n int, size int) []byte {
	var digits []byte
	for range size {
		digits = append([]byte{byte(n % 256)}, digits...)
		n /= 256
	}
	return digits
}

// plainBytes returns the bytes of a packet as the document says them.
func plainBytes(p impl.Packet) []byte {
	b := []byte{byte(p.Leap*64 + 4*8 + p.Mode), byte(p.Stratum), byte(p.Poll)}
	b = append(b, plainDigits(p.Spread, 2)...)
	for _, stamp := range []int{p.Origin, p.Receive, p.Send} {
		b = append(b, plainDigits(stamp, 6)...)
	}
	return b
}

// plainPacket returns the packet of PacketBytes bytes, and whether there is one.
func plainPacket(b []byte) (impl.Packet, bool) {
	number := func(digits []byte) int {
		n := 0
		for _, digit := range digits {
			n = n*256 + int(digit)
		}
		return n
	}
	p := impl.Packet{
		Leap:    int(b[0] / 64),
		Mode:    int(b[0] % 8),
		Stratum: int(b[1]),
		Poll:    int(b[2]),
		Spread:  number(b[3:5]),
		Origin:  number(b[5:11]),
		Receive: number(b[11:17]),
		Send:    number(b[17:23]),
	}
	late := max(p.Origin, p.Receive, p.Send) > lastStamp
	if b[0]/8%8 != 4 || p.Stratum > mostStratum || p.Poll > mostPoll || late {
		return impl.Packet{}, false
	}
	return p, true
}

// someCivils returns civil times of time stamps, ascending.
func someCivils() []int {
	return []int{0, 1, 59, dayLong, 12345678, lastCivil - 1, lastCivil}
}

// someMicros returns microseconds of a second, ascending.
func someMicros() []int {
	return []int{0, 1, 2, 999, 1000, 500000, lastMicro - 1, lastMicro}
}

// someStamps returns time stamps: those of some civil times, those of which a
// byte is full or empty, and thrown ones.
func someStamps() []int {
	var stamps []int
	for _, civil := range someCivils() {
		for _, micros := range someMicros() {
			stamps = append(stamps, civil*secondLong+micros)
		}
	}
	for bits := 8; bits < 48; bits += 8 {
		stamps = append(stamps, 1<<bits-1, 1<<bits, 255<<(bits-8), 128<<(bits-8))
	}
	var d dice
	for range 200 {
		stamps = append(stamps, d.throw(lastCivil)*secondLong+d.throw(secondLong))
	}
	return stamps
}

// somePackets returns valid packets: each number alone at some values, all
// numbers at their limits, and thrown ones.
func somePackets() []impl.Packet {
	full := impl.Packet{Leap: mostLeap, Mode: mostMode, Stratum: mostStratum, Poll: mostPoll, Spread: mostSpread, Origin: lastStamp, Receive: lastStamp, Send: lastStamp}
	packets := []impl.Packet{{}, full, {Leap: 1, Mode: 3, Stratum: 2, Poll: 6, Spread: 258, Origin: 1, Receive: 256, Send: 5}}
	for n, most := range mostOfNumbers() {
		for _, value := range []int{0, 1, most / 3, most / 2, most - 1, most} {
			for _, p := range []impl.Packet{{}, full} {
				*numbersOf(&p)[n] = value
				packets = append(packets, p)
			}
		}
	}
	stamps := someStamps()
	var d dice
	for range 200 {
		packets = append(packets, impl.Packet{
			Leap:    d.throw(mostLeap + 1),
			Mode:    d.throw(mostMode + 1),
			Stratum: d.throw(mostStratum + 1),
			Poll:    d.throw(mostPoll + 1),
			Spread:  d.throw(mostSpread + 1),
			Origin:  stamps[d.throw(len(stamps))],
			Receive: stamps[d.throw(len(stamps))],
			Send:    stamps[d.throw(len(stamps))],
		})
	}
	return packets
}

// wrongPackets returns packets that are not valid, each for one number.
func wrongPackets() []impl.Packet {
	valid := []impl.Packet{{}, {Leap: 1, Mode: 3, Stratum: 2, Poll: 6, Spread: 258, Origin: 1, Receive: 256, Send: 5}}
	var packets []impl.Packet
	for n, most := range mostOfNumbers() {
		// With 256 and 1 << 48 more the bytes would be the same.
		for _, wrong := range append(outside(0, most), most+256, 1<<48, 1<<48+1, -256) {
			for _, p := range valid {
				*numbersOf(&p)[n] = wrong
				packets = append(packets, p)
			}
		}
	}
	return packets
}

// mostOfNumbers returns the limits of the numbers of a packet.
func mostOfNumbers() []int {
	return []int{mostLeap, mostMode, mostStratum, mostPoll, mostSpread, lastStamp, lastStamp, lastStamp}
}

// numbersOf returns the numbers of a packet, in order.
func numbersOf(p *impl.Packet) []*int {
	return []*int{&p.Leap, &p.Mode, &p.Stratum, &p.Poll, &p.Spread, &p.Origin, &p.Receive, &p.Send}
}
