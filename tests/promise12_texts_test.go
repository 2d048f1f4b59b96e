package tests

import (
	"fmt"
	"math"
	"regexp"
	"strconv"
	"strings"
	"testing"

	"loop.example/g01299/impl"
)

var wordPattern = regexp.MustCompile(`^(\d|[12]\d|3[0-6])( (\d|[12]\d|3[0-6])){0,7}$`)

// toldReadWord reads a text as the document tells it, and reports whether it is that of a word.
func toldReadWord(text string) (impl.Word, bool) {
	if !wordPattern.MatchString(text) {
		return nil, false
	}
	var w impl.Word
	for _, digits := range strings.Fields(text) {
		letter, _ := strconv.Atoi(digits)
		w = append(w, uint8(letter))
	}
	return w, true
}

func TestPromise12Ranks(t *testing.T) {
	for _, size := range [][2]int64{{2, 1}, {2, 2}, {2, 8}, {3, 5}, {4, 4}, {5, 2}, {10, 3}, {36, 2}, {37, 1}, {37, 2}} {
		rank := int64(0)
		for w := range everyWord(size[0], size[1]) {
			name := fmt.Sprint(size[0], " letters, word ", w)
			same(t, name, results(impl.RankOfWord(size[0], w)), rank, impl.OK)
			same(t, name, results(impl.WordAt(size[0], size[1], rank)), w, impl.OK)
			rank++
		}
		same(t, "behind the last one", results(impl.WordAt(size[0], size[1], rank)), impl.Word(nil), impl.ErrRange)
		same(t, "before the first one", results(impl.WordAt(size[0], size[1], -1)), impl.Word(nil), impl.ErrRange)
	}
	seed := numbers(107)
	for letters := int64(2); letters <= 37; letters++ {
		for length := int64(1); length <= 8; length++ {
			count := toldWordCount(letters, length).Int64()
			last := make(impl.Word, length)
			spoil(last, uint8(letters-1))
			same(t, "the last one", results(impl.WordAt(letters, length, count-1)), last, impl.OK)
			same(t, "the last one", results(impl.RankOfWord(letters, last)), count-1, impl.OK)
			same(t, "the first one", results(impl.WordAt(letters, length, 0)), make(impl.Word, length), impl.OK)
			same(t, "the first one", results(impl.RankOfWord(letters, make(impl.Word, length))), 0, impl.OK)
			for _, rank := range []int64{math.MinInt64, -1, count, count + 1, math.MaxInt64} {
				same(t, "no such rank", results(impl.WordAt(letters, length, rank)), impl.Word(nil), impl.ErrRange)
			}
			for range 5 {
				w := drawnWord(&seed, int(letters), int(length))
				rank, code := impl.RankOfWord(letters, w)
				same(t, fmt.Sprint(letters, " letters, word ", w), results(impl.WordAt(letters, length, rank)), w, code)
			}
		}
	}
	same(t, "the last one of 37 letters", results(impl.RankOfWord(37, impl.Word{36, 36, 36, 36, 36, 36, 36, 36})), 3512479453920, impl.OK)
}

func TestPromise12RankErrors(t *testing.T) {
	for _, letters := range append(afarExtremes, badLetterNumbers()...) {
		for _, w := range append(badLetters(), impl.Word{0}, impl.Word{1}, impl.Word{2}, impl.Word{0, 2}, impl.Word{35}, impl.Word{36}, make(impl.Word, 8)) {
			want := int64(impl.OK)
			if letters < 2 || letters > 37 {
				want = impl.ErrRange
			} else if !toldWordOf(w, letters) {
				want = impl.ErrInvalid
			}
			rank, code := impl.RankOfWord(letters, w)
			if code != want || want != impl.OK && rank != 0 {
				t.Errorf("%d letters, a word of %d: rank %d, code %d, want %d", letters, len(w), rank, code, want)
			}
		}
		for _, length := range afarExtremes {
			for _, rank := range afarExtremes {
				want := int64(impl.ErrRange)
				if toldSizes(letters, length, 1) && rank >= 0 && rank < toldWordCount(letters, length).Int64() {
					want = impl.OK
				}
				w, code := impl.WordAt(letters, length, rank)
				if code != want || (want == impl.OK) != (len(w) > 0) {
					t.Errorf("%d letters, length %d, rank %d: %v, code %d, want %d", letters, length, rank, w, code, want)
				}
			}
		}
	}
}

// badLetterNumbers are numbers of letters of which there are no words, but of some numbers with the same lowest bits.
func badLetterNumbers() []int64 {
	return []int64{256 + 2, 256 + 37, 1<<32 + 2, -256 + 5, math.MinInt64 + 2}
}

func TestPromise12TextBack(t *testing.T) {
	tests := []struct {
		w    impl.Word
		text string
	}{
		{impl.Word{0}, "0"}, {impl.Word{36}, "36"}, {impl.Word{1, 2}, "1 2"}, {impl.Word{10, 9, 36, 0}, "10 9 36 0"}, {impl.Word{0, 0, 0, 0, 0, 0, 0, 0}, "0 0 0 0 0 0 0 0"},
		{impl.Word{36, 35, 34, 33, 32, 31, 30, 29}, "36 35 34 33 32 31 30 29"},
	}
	for _, test := range tests {
		same(t, test.text, results(impl.WordText(test.w)), test.text)
		same(t, test.text, results(impl.ReadWord(test.text)), test.w, impl.OK)
	}
	seed := numbers(109)
	for k := range 400 {
		w := drawnWord(&seed, 37, 1+k%8)
		text := strings.Trim(fmt.Sprint([]uint8(w)), "[]")
		same(t, text, results(impl.WordText(w)), text)
		same(t, text, results(impl.ReadWord(text)), w, impl.OK)
	}
	for letter := range 300 {
		text := strconv.Itoa(letter)
		if letter > 36 {
			same(t, text, results(impl.ReadWord(text)), impl.Word(nil), impl.ErrSyntax)
			same(t, text, results(impl.ReadWord("0 "+text)), impl.Word(nil), impl.ErrSyntax)
			continue
		}
		same(t, text, results(impl.ReadWord(text)), impl.Word{uint8(letter)}, impl.OK)
	}
	for length := 1; length <= 12; length++ {
		text := strings.Repeat("0 ", length-1) + "0"
		if length > 8 {
			same(t, text, results(impl.ReadWord(text)), impl.Word(nil), impl.ErrSyntax)
			continue
		}
		same(t, text, results(impl.ReadWord(text)), make(impl.Word, length), impl.OK)
	}
	for _, bad := range badLetters() {
		same(t, "text of an invalid word", results(impl.WordText(bad)), "")
		text := strings.Trim(fmt.Sprint([]uint8(bad)), "[]")
		same(t, text, results(impl.ReadWord(text)), impl.Word(nil), impl.ErrSyntax)
	}
}

func TestPromise12NoText(t *testing.T) {
	texts := []string{
		"", " ", "  ", "00", "01", "000", "036", "0 01", "00 1", "1 00", "+1", "-1", "-0", "+0", "1 +2", "1 -2", "0 -0", "37", "256", "257", "292", "1 256", "256 1", "65536", "4294967296", "18446744073709551616", "99999999999999999999", "-256", "-255",
		" 1", "1 ", "1  2", " 1 2", "1 2 ", "1   2", "1\t2", "1\n", "\n1", "1\n2", "1,2", "1, 2", "1/2", "1\x00", "\x001", "1\xa02", "1\u00a02", "1_0", "0x1", "0b1", "0o1", "1e1", "1.0", "1.", ".1", "１", "²", "a", "A", "x", "1 x", "x 1", "s1", "-", "[1 2]", "'1'",
		"0 0 0 0 0 0 0 0 ", "0 0 0 0 0 0 0 0 0", "0 0 0 0 0 0 0 0 x", "0 0 0 0 0 0 0  0", " 0 0 0 0 0 0 0 0",
		strings.Repeat("1 ", 500000), strings.Repeat("1", 1000000), strings.Repeat(" ", 1000000), strings.Repeat("0", 999999) + "1", strings.Repeat("x", 1000000), "1 " + strings.Repeat("9", 900000),
	}
	for _, text := range texts {
		same(t, strconv.Quote(text[:min(len(text), 60)]), results(impl.ReadWord(text)), impl.Word(nil), impl.ErrSyntax)
	}
}

func TestPromise12ChangedTexts(t *testing.T) {
	texts := []string{"0", "36", "1 2", "10 20 30", "0 0 0 0 0 0 0 0", "36 36 36 36 36 36 36 36", "1 10 11 2 35 9"}
	letters := []string{"", " ", "-", "+", "/", "0", "1", "2", "3", "6", "7", "9", "x", "\n", "\xff"}
	read, refused := readAsTold(t, changedTexts(texts, letters), toldReadWord, impl.ReadWord)
	if read < 100 || refused < 100 {
		t.Errorf("%d texts are words', %d are not", read, refused)
	}
}

// TestPromise12EveryShortText holds ReadWord against a pattern of texts.
func TestPromise12EveryShortText(t *testing.T) {
	found, _ := readAsTold(t, everyText(" +-0367", 6), toldReadWord, impl.ReadWord)
	// 4 letters have one digit, and 3 have two: there are words of one letter, of two with 3 to 5 bytes, and of three with 5 or 6.
	same(t, "how many are words'", results(int64(found)), 4+3+4*4+2*4*3+3*3+4*4*4+3*4*4*3)
}
