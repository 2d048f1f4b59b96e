package tests

import (
	"regexp"
	"slices"
	"strconv"
	"strings"
	"testing"

	"loop.example/g01299/impl"
)

func TestHoistConstants(t *testing.T) {
	same(t, "constants", results(int64(impl.MaxKinds), int64(impl.MaxHoist), int64(impl.MaxSubs), int64(impl.Break)), 40, 8, 4, -10)
}

func TestValidHoist(t *testing.T) {
	const gap = impl.Break
	good := []impl.Hoist{
		{0}, {39}, {1, 2, 3, 4, 5, 6, 7, 8}, {1, 1, 1, 1, 1, 1, 1, 1},
		{1, -1}, {1, 2, -2}, {1, 2, 3, -3}, {1, 2, 3, 4, -4}, {1, -1, -2}, {1, -1, -2, -3, -4}, {1, -1, -1, -1, -1, -1, -1, -1},
		{1, gap, 1}, {1, -1, gap, 2, -1}, {1, gap, 2, gap, 3, gap, 4, -1}, {1, 2, 3, gap, 4, 5, 6, -3},
	}
	for _, h := range append(good, someHoists(400)...) {
		same(t, toldText(h), results(impl.ValidHoist(h)), true)
	}
	for _, h := range badHoists() {
		same(t, toldText(h[:min(len(h), 20)]), results(impl.ValidHoist(h)), false)
	}
	for length := range 10 {
		same(t, "length", results(impl.ValidHoist(make(impl.Hoist, length)), impl.ValidMeaning(make(impl.Meaning, length))), length >= 1 && length <= 8, length >= 1 && length <= 8)
	}
	for number := -128; number <= 127; number++ {
		n := int8(number)
		isKind := number >= 0 && number <= 39
		same(t, "one number", results(impl.ValidHoist(impl.Hoist{n})), isKind)
		same(t, "behind four flags", results(impl.ValidHoist(impl.Hoist{1, 2, 3, 4, n, 5})), isKind || n == gap || number >= -4 && number <= -1)
		same(t, "in a meaning", results(impl.ValidMeaning(impl.Meaning{1, 2, 3, 4, n, 5})), isKind || n == gap)
	}
}

func TestValidHoistEveryShortList(t *testing.T) {
	for length := range 5 {
		for h := range everyList(hoistNumbers, length) {
			_, valid := toldMeaning(h)
			hasSub := slices.ContainsFunc(h, func(n int8) bool { return n < 0 && n != impl.Break })
			if impl.ValidHoist(h) != valid || impl.ValidMeaning(impl.Meaning(h)) != (valid && !hasSub) {
				t.Fatalf("%v: valid as a hoist %t, as a meaning %t", h, impl.ValidHoist(h), impl.ValidMeaning(impl.Meaning(h)))
			}
		}
	}
}

func TestSameHoist(t *testing.T) {
	lists := append(badHoists(), someHoists(40)...)
	for i, a := range lists {
		for j, b := range lists {
			want := i == j || len(a) == 0 && len(b) == 0 || toldText(a) == toldText(b)
			same(t, "same", results(impl.SameHoist(a, b)), want)
		}
		same(t, "a copy", results(impl.SameHoist(a, slices.Clone(a))), true)
		same(t, "with one more", results(impl.SameHoist(a, append(slices.Clone(a), 1))), false)
		if len(a) > 0 {
			other := slices.Clone(a)
			other[len(a)-1]++
			same(t, "with another last one", results(impl.SameHoist(a, other), impl.SameHoist(other, a)), false, false)
		}
	}
	same(t, "alike, but not the same", results(impl.SameHoist(impl.Hoist{1, -1}, impl.Hoist{1, 1})), false)
}

func TestHoistTextBack(t *testing.T) {
	tests := []struct {
		h    impl.Hoist
		text string
	}{
		{impl.Hoist{3, 5, -1, -2}, "3 5 s1 s2"},
		{impl.Hoist{0}, "0"},
		{impl.Hoist{39, impl.Break, 10, 9, 8, 7, -4, -3}, "39 / 10 9 8 7 s4 s3"},
		{impl.Hoist{1, impl.Break, 2, -1}, "1 / 2 s1"},
	}
	for _, test := range tests {
		same(t, test.text, results(impl.HoistText(test.h)), test.text)
		same(t, test.text, results(impl.ReadHoist(test.text)), test.h, impl.OK)
	}
	for _, h := range someHoists(800) {
		text := impl.HoistText(h)
		same(t, "text", results(text), toldText(h))
		same(t, text, results(impl.ReadHoist(text)), h, impl.OK)
	}
	for _, h := range badHoists() {
		same(t, "text of an invalid hoist", results(impl.HoistText(h)), "")
		if len(h) < 20 {
			same(t, toldText(h), results(impl.ReadHoist(toldText(h))), impl.Hoist(nil), impl.ErrSyntax)
		}
	}
}

func TestReadHoistNoText(t *testing.T) {
	texts := []string{
		"", " ", "  ", " 1", "1 ", "1  2", "1\t2", "1\n", "1,2", "\x00", "1 2 ", "é", "１",
		"40", "41", "100", "128", "255", "256", "257", "296", "99999999999999999999", "-1", "-4", "-10", "+1", "-0", "01", "00", "1.0", "0x1", "1_0", "1e1",
		"s", "s1", "1 s0", "1 s2", "1 s5", "1 2 3 4 5 s5", "1 s", "1 s-1", "1 s+1", "1 s01", "1 S1", "1 s1s1", "1 ss1", "1 s 1", "1s1", "s1 1", "1 s257", "1 s-255", "1 2 s246", "1 s10 2",
		"/", "1 /", "/ 1", "1 / / 2", "1 // 2", "1/2", "1 /2", "1/ 2", "1 \\ 2", "1 -10 2", "1 s-10 2", "1 -1", "1 x 2", "1 . 2",
		"1 / s1", "1 2 / 3 s2", "1 2 3 4 5 6 7 8 9", "1 1 1 1 / 1 1 1 1", "1 2 3 4 5 6 7 8 ", "1 2 3 4 5 6 7 8 /",
		strings.Repeat("1 ", 500000), strings.Repeat("1", 1000000), strings.Repeat(" ", 1000000), "1 s" + strings.Repeat("1", 900000), strings.Repeat("s", 1000000), strings.Repeat("1 / ", 200000) + "1",
	}
	for _, text := range texts {
		same(t, strconv.Quote(text[:min(len(text), 40)]), results(impl.ReadHoist(text)), impl.Hoist(nil), impl.ErrSyntax)
	}
}

// TestReadHoistEveryShortText holds ReadHoist against a pattern of texts.
func TestReadHoistEveryShortText(t *testing.T) {
	words := regexp.MustCompile(`^(\d|[123]\d|s[1-4]|/)( (\d|[123]\d|s[1-4]|/))*$`)
	found := 0
	for text := range everyText(" +-/01349s", 5) {
		h, code := impl.ReadHoist(text)
		wanted := false
		if words.MatchString(text) {
			_, wanted = toldMeaning(readTold(text))
		}
		if wanted != (code == impl.OK) || wanted != (len(h) > 0) || wanted && toldText(h) != text {
			t.Fatalf("%q: %v, code %d", text, h, code)
		}
		if wanted {
			found++
		}
	}
	if found < 100 {
		t.Errorf("only %d texts are hoists'", found)
	}
}

// readTold reads a text that has the words of hoists.
func readTold(text string) impl.Hoist {
	var h impl.Hoist
	for _, word := range strings.Split(text, " ") {
		number, _ := strconv.Atoi(strings.TrimPrefix(word, "s"))
		switch word[0] {
		case '/':
			number = impl.Break
		case 's':
			number = -number
		}
		h = append(h, int8(number))
	}
	return h
}
