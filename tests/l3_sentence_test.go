package tests

import (
	"fmt"
	"reflect"
	"slices"
	"strings"
	"testing"

	"loop.example/satelliteclock/impl"
)

func TestLimitsOfSentences(t *testing.T) {
	if impl.MaxBody != longestText || impl.MaxInput != longestInput || impl.MaxFrames != mostFrames {
		t.Error("a limit of chapter 3 is not that of the document")
	}
}

func TestChecksumOfEachByte(t *testing.T) {
	for b := 0; b < 256; b++ {
		want := b
		if b < ' ' || b > '~' || b == '$' || b == '*' {
			want = -1
		}
		if got := impl.ChecksumOf(string([]byte{byte(b)})); got != want {
			t.Errorf("ChecksumOf byte %d = %d, want %d", b, got, want)
		}
		if want >= 0 {
			want ^= 'x' ^ 'y'
		}
		if got := impl.ChecksumOf("x" + string([]byte{byte(b)}) + "y"); got != want {
			t.Errorf("ChecksumOf byte %d between x and y = %d, want %d", b, got, want)
		}
	}
}

func TestChecksumOfWrongTexts(t *testing.T) {
	for _, text := range wrongTexts() {
		if got := impl.ChecksumOf(text); got != -1 {
			t.Errorf("ChecksumOf(%q) = %d", text, got)
		}
	}
}

func TestP19ChecksumsAreBytes(t *testing.T) {
	for _, text := range someTexts() {
		want := 0
		for _, b := range []byte(text) {
			want ^= int(b)
		}
		got := impl.ChecksumOf(text)
		if got != want || got < 0 || got > 127 {
			t.Errorf("ChecksumOf(%q) = %d, want %d", text, got, want)
		}
		want = 0
		if 2*len(text) > longestText {
			want = -1
		}
		if got := impl.ChecksumOf(text + text); got != want {
			t.Errorf("ChecksumOf(%q) = %d, want %d", text+text, got, want)
		}
	}
}

func TestP20OrderDoesNotMatterForChecksums(t *testing.T) {
	for _, text := range someTexts() {
		reversed := []byte(text)
		slices.Reverse(reversed)
		if a, b := impl.ChecksumOf(text), impl.ChecksumOf(string(reversed)); a < 0 || a != b {
			t.Errorf("ChecksumOf(%q) = %d, in reverse order %d", text, a, b)
		}
	}
}

func TestFrameBody(t *testing.T) {
	sentences := map[string]string{
		"A":                       "$A*41",
		"AB":                      "$AB*03",
		"J":                       "$J*4A",
		"o":                       "$o*6F",
		" ":                       "$ *20",
		"~":                       "$~*7E",
		"AA":                      "$AA*00",
		"!.":                      "$!.*0F",
		"FIX,235960,31,12,2016,9": "$FIX,235960,31,12,2016,9*4D",
		"abcdefghijklmnopqrstuvwxyz0123456789,.-+": "$abcdefghijklmnopqrstuvwxyz0123456789,.-+*1E",
	}
	for text, want := range sentences {
		if got := impl.FrameBody(text); got != want {
			t.Errorf("FrameBody(%q) = %q, want %q", text, got, want)
		}
		if got, ok := impl.ReadFrame(want); got != text || !ok {
			t.Errorf("ReadFrame(%q) = %q, %v", want, got, ok)
		}
	}
	for _, text := range wrongTexts() {
		if got := impl.FrameBody(text); got != "" {
			t.Errorf("FrameBody(%q) = %q", text, got)
		}
	}
}

func TestP21SentencesCanBeRead(t *testing.T) {
	for _, text := range someTexts() {
		if got, ok := impl.ReadFrame(impl.FrameBody(text)); got != text || !ok {
			t.Errorf("ReadFrame(FrameBody(%q)) = %q, %v", text, got, ok)
		}
	}
}

func TestP22TextsHaveOneSentence(t *testing.T) {
	for _, text := range []string{"A", "J", "AA", "kW", "o0"} {
		accepted := 0
		for high := 0; high < 256; high++ {
			for low := 0; low < 256; low++ {
				s := "$" + text + "*" + string([]byte{byte(high), byte(low)})
				got, ok := impl.ReadFrame(s)
				if ok && (got != text || impl.FrameBody(got) != s) {
					t.Errorf("ReadFrame(%q) = %q", s, got)
				}
				if ok {
					accepted++
				}
			}
		}
		if accepted != 1 {
			t.Errorf("%d sentences of %q", accepted, text)
		}
	}
}

func TestP23WrongBytesAreFound(t *testing.T) {
	for _, text := range someTexts() {
		sentence := []byte(impl.FrameBody(text))
		for i := range sentence {
			right := sentence[i]
			for b := 0; b < 256; b++ {
				if byte(b) == right {
					continue
				}
				sentence[i] = byte(b)
				expectNoFrame(t, string(sentence))
			}
			sentence[i] = right
		}
	}
}

func TestReadFrameOfOtherTexts(t *testing.T) {
	for _, s := range []string{"", "$", "*", "$*", "$*00", "$*0", "A", "$A", "$A*", "$A*4", "A*41", "$A*041", "$A41", "$A*4A", "$A*14", "$J*4a", "$o*6f", "$o*6 ", "$A*0x41", "$A*65", "$A*+1"} {
		expectNoFrame(t, s)
	}
	for _, text := range someTexts() {
		sentence := impl.FrameBody(text)
		for i := range len(sentence) {
			expectNoFrame(t, sentence[:i])
			expectNoFrame(t, sentence[i+1:])
		}
		for _, s := range []string{" " + sentence, sentence + " ", "$" + sentence, sentence + "\n", "\x00" + sentence, sentence + sentence} {
			expectNoFrame(t, s)
		}
		if lower := strings.ToLower(sentence[len(sentence)-2:]); !strings.HasSuffix(sentence, lower) {
			expectNoFrame(t, sentence[:len(sentence)-2]+lower)
		}
	}
	for _, text := range wrongTexts() {
		expectNoFrame(t, plainFrame(text))
	}
}

func TestP139SentencesEndWithTheirChecksums(t *testing.T) {
	for _, text := range someTexts() {
		want := fmt.Sprintf("$%s*%02X", text, impl.ChecksumOf(text))
		if got := impl.FrameBody(text); got != want {
			t.Errorf("FrameBody(%q) = %q, want %q", text, got, want)
		}
	}
}

func TestP24AllSentencesAreFound(t *testing.T) {
	for _, text := range someTexts() {
		expectTexts(t, impl.FrameBody(text), text)
	}
	for _, input := range someInputs() {
		got := impl.SplitFrames(input)
		if want := plainSplit(input); !slices.Equal(got, want) {
			t.Errorf("SplitFrames(%q) = %q, want %q", input, got, want)
		}
		rest := input
		for _, text := range got {
			_, behind, found := strings.Cut(rest, plainFrame(text))
			if !found {
				t.Errorf("SplitFrames(%q): %q is not there as a sentence", input, text)
			}
			rest = behind
		}
	}
}

// The short inputs are all texts of those bytes on which the search depends,
// so that every way to fail and to begin anew is among them.
func TestSplitFramesOfAllShortInputs(t *testing.T) {
	const letters = "$A*41"
	inputs := []string{""}
	for from, size := 0, 0; size <= 7; size++ {
		end := len(inputs)
		for ; from < end; from++ {
			input := inputs[from]
			if got, want := impl.SplitFrames(input), plainSplit(input); !slices.Equal(got, want) {
				t.Fatalf("SplitFrames(%q) = %q, want %q", input, got, want)
			}
			for _, letter := range letters {
				inputs = append(inputs, input+string(letter))
			}
		}
	}
}

func TestSplitFramesInNoise(t *testing.T) {
	expectTexts(t, "")
	expectTexts(t, "no sentence *41")
	expectTexts(t, "$A*41", "A")
	expectTexts(t, "$A*41$B*42", "A", "B")
	expectTexts(t, "$A*41$A*41", "A", "A")
	expectTexts(t, "xx$A*41yy$B*42zz", "A", "B")
	expectTexts(t, "*41*$A*41*41", "A")
	expectTexts(t, "$$$A*41", "A")
	expectTexts(t, "$x$A*41", "A")
	expectTexts(t, "$x*$A*41", "A")
	expectTexts(t, "$x*7$A*41", "A")
	expectTexts(t, "$x*77$A*41", "A")
	expectTexts(t, "$x*787$A*41", "x", "A")
	expectTexts(t, "$A*40A*41$B*42", "B")
	expectTexts(t, "$A**41$B*42", "B")
	expectTexts(t, "$*00$B*42", "B")
	expectTexts(t, "$J*4a$J*4A", "J")
	expectTexts(t, "$A\n*41$B*42\r\n", "B")
	expectTexts(t, "\xff\x00$A*41\x80$\xc3\xa9*2A", "A")
	expectTexts(t, "$A*41$A*4", "A")
	expectTexts(t, "$A*41$A*", "A")
	expectTexts(t, "$A*41$A", "A")
	expectTexts(t, "$A*41$", "A")
}

func TestSplitFramesWithLongTexts(t *testing.T) {
	longest, longer := strings.Repeat("x", longestText), strings.Repeat("x", longestText+1)
	expectTexts(t, plainFrame(longest), longest)
	expectTexts(t, plainFrame(longer))
	expectTexts(t, plainFrame(longer)+plainFrame(longest), longest)
	expectTexts(t, "$"+longer+plainFrame("A"), "A")
}

func TestSplitFramesOfTheLongestInput(t *testing.T) {
	first, last := plainFrame("first"), plainFrame("last")
	noise := strings.Repeat("-", longestInput-len(first)-len(last))
	expectTexts(t, first+noise+last, "first", "last")
	expectTexts(t, noise+first+last, "first", "last")
	for _, longer := range []string{"-" + first + noise + last, first + noise + last + "-", first + noise + "-" + last, strings.Repeat(first, 100)} {
		if got := impl.SplitFrames(longer); got != nil {
			t.Errorf("SplitFrames of %d bytes = %q", len(longer), got)
		}
	}
}

func TestSplitFramesFindsMaxFrames(t *testing.T) {
	input := ""
	var texts []string
	for n := range 20 {
		text := string(rune('a' + n))
		input += "$x*00" + plainFrame(text) + "--"
		texts = append(texts, text)
		expectTexts(t, input, texts[:min(len(texts), mostFrames)]...)
	}
}

func TestP25SentencesFollowEachOther(t *testing.T) {
	for _, input := range append(someInputs(), "") {
		for _, text := range someTexts() {
			sentence := plainFrame(text)
			if len(sentence)+len(input) > longestInput {
				continue
			}
			want := append([]string{text}, impl.SplitFrames(input)...)
			expectTexts(t, sentence+input, want[:min(len(want), mostFrames)]...)
		}
	}
}

func TestP140NoiseIsLeftOut(t *testing.T) {
	for _, input := range someInputs() {
		want := impl.SplitFrames(input)
		for _, noise := range []string{" ", "*", "*41", "A*41", "\x00\xff", "\n\n", "x*00*", strings.Repeat("4", 50)} {
			if len(noise)+len(input) <= longestInput {
				expectTexts(t, noise+input, want...)
			}
		}
	}
}

func TestResultsOfSplitFramesAreNew(t *testing.T) {
	input := "$A*41$B*42"
	first := impl.SplitFrames(input)
	if len(first) != 2 {
		t.Fatalf("SplitFrames(%q) = %q", input, first)
	}
	first[0], first[1] = "x", "y"
	expectTexts(t, input, "A", "B")
}

// expectNoFrame checks that a text is no sentence.
func expectNoFrame(t *testing.T, s string) {
	t.Helper()
	if text, ok := impl.ReadFrame(s); ok || text != "" {
		t.Errorf("ReadFrame(%q) = %q, %v", s, text, ok)
	}
}

// expectTexts checks which texts an input has.
func expectTexts(t *testing.T, input string, want ...string) {
	t.Helper()
	got := impl.SplitFrames(input)
	if len(got)+len(want) > 0 && !reflect.DeepEqual(got, want) {
		t.Errorf("SplitFrames(%q) = %q, want %q", input, got, want)
	}
}

// plainFrame puts any text into the form of a sentence, even where it may not be in one.
func plainFrame(text string) string {
	sum := byte(0)
	for _, b := range []byte(text) {
		sum ^= b
	}
	return fmt.Sprintf("$%s*%02X", text, sum)
}

// plainSplit searches for sentences word by word as the document says it.
func plainSplit(input string) []string {
	var texts []string
	for at := 0; at < len(input) && len(texts) < mostFrames; at++ {
		if input[at] != '$' {
			continue
		}
		star := strings.IndexByte(input[at:], '*')
		if star < 0 || at+star+3 > len(input) {
			continue
		}
		text := input[at+1 : at+star]
		isText := text != "" && len(text) <= longestText && !strings.ContainsFunc(text, func(r rune) bool {
			return r < ' ' || r > '~' || r == '$'
		})
		if isText && input[at:at+star+3] == plainFrame(text) {
			texts = append(texts, text)
			at += star + 2
		}
	}
	return texts
}

// someTexts returns texts that may be in sentences, among them all of one byte.
func someTexts() []string {
	texts := []string{"AB", "BA", "AA", "a,b", "   ", "~}|", "!.", "41", "0", "FIX,235960,31,12,2016,9", strings.Repeat("ab", 10), strings.Repeat("x", 21), strings.Repeat("~", longestText-1), strings.Repeat("x", longestText), "abcdefghijklmnopqrstuvwxyz0123456789,.-+"}
	for b := byte(' '); b <= '~'; b++ {
		if b != '$' && b != '*' {
			texts = append(texts, string([]byte{b}))
		}
	}
	return texts
}

// wrongTexts returns texts that may not be in sentences.
func wrongTexts() []string {
	return []string{"", "$", "*", "A*", "*A", "A*41", "$A", "A$", "A$B", "$A*41", "A\n", "\tA", "A\x00", "\x1f", "\x7f", "A\x7fB", "\x80", "\xff", "é", "日本", "\xc3", strings.Repeat("x", longestText+1), strings.Repeat("x", 2*longestText), strings.Repeat("x", 1000), strings.Repeat("x", longestText-1) + "*", strings.Repeat(" ", longestText-1) + "é"}
}

// someInputs returns texts with sentences between noise: pieces that are
// sentences, parts of them, or look like them, in changing order.
func someInputs() []string {
	pieces := []string{plainFrame("A"), plainFrame("AB"), "$", "*", "$A*40", "$J*4a", plainFrame("J"), "$x*7", "*41", "--", plainFrame("FIX,1"), "$A$", "\xff\n", plainFrame("")}
	var inputs []string
	for first := range pieces {
		for step := 1; step < len(pieces); step++ {
			input := ""
			for n, at := 0, first; n < 12; n, at = n+1, (at+step+n)%len(pieces) {
				input += pieces[at]
				inputs = append(inputs, input)
			}
		}
	}
	return inputs
}
