package tests

import (
	"fmt"
	"regexp"
	"slices"
	"strconv"
	"strings"
	"testing"

	"loop.example/g01299/impl"
)

// wordExtremes are words of all lengths, with letters at both ends of the alphabet.
var wordExtremes = []string{"a", "z", "az", "za", "aaa", "abc", "anna", "zzzz", "hello", "banana", "letters", "abababab", "abcdefgh", "aaaaaaaa", "zyxwvuts"}

// badWords returns words that cannot be spelled.
func badWords() []string {
	return []string{"", "A", "Z", "`", "{", "@", "0", "-", "/", "\x00", "\xff", "\n", "\t", "é", "ab c", "abC", "Abc", "a`", "a{", "{a", "a1b", "an-na", "abcdefg{", "abcdefghi", "aaaaaaaaaaaaaaaa", strings.Repeat("z", 1000000)}
}

// toldSpelled writes the kinds of a word, and cuts them into groups.
func toldSpelled(word string, group int) impl.Meaning {
	var m impl.Meaning
	for start := 0; start < len(word); start += group {
		if start > 0 {
			m = append(m, impl.Break)
		}
		for _, letter := range word[start:min(start+group, len(word))] {
			m = append(m, int8(strings.IndexRune("abcdefghijklmnopqrstuvwxyz", letter)))
		}
	}
	return m
}

// someWords returns words with few and with many letters.
func someWords(count int) []string {
	seed := numbers(19)
	list := slices.Clone(wordExtremes)
	for k := range count {
		word := ""
		for range 1 + k%8 {
			word += string("abcdefghijklmnopqrstuvwxyz"[seed.below([]int{2, 3, 26}[k%3])])
		}
		list = append(list, word)
	}
	return list
}

func TestPromise8Example(t *testing.T) {
	const gap = impl.Break
	same(t, "spelled", results(impl.SpellWord("anna", 2)), impl.Meaning{0, 13, gap, 13, 0}, impl.OK)
	same(t, "hoisted", results(impl.HoistsForText("anna", 2)), []impl.Hoist{{0, 13, -2, -1}}, impl.OK)
	same(t, "read", results(impl.SpelledWord(impl.Meaning{0, 13, gap, 13, 0})), "anna", impl.OK)
	same(t, "read from the hoists", results(impl.TextFromHoists([]impl.Hoist{{0, 13, -2, -1}})), "anna", impl.OK)
}

func TestPromise8Words(t *testing.T) {
	for _, word := range someWords(400) {
		for group := 1; group <= 8; group++ {
			want := toldSpelled(word, group)
			if len(want) > 8 {
				same(t, fmt.Sprint(word, group), results(impl.SpellWord(word, int64(group))), impl.Meaning(nil), impl.ErrLimit)
				continue
			}
			m, code := impl.SpellWord(word, int64(group))
			same(t, fmt.Sprint(word, group), results(m, code), want, impl.OK)
			same(t, fmt.Sprint(word, group), results(impl.ValidMeaning(m)), true)
			same(t, fmt.Sprint(word, group), results(impl.SpelledWord(m)), word, impl.OK)
		}
	}
}

func TestPromise8SpellWord(t *testing.T) {
	const gap = impl.Break
	tests := []struct {
		word  string
		group int64
		m     impl.Meaning
		want  int64
	}{
		{"a", 1, impl.Meaning{0}, impl.OK}, {"z", 8, impl.Meaning{25}, impl.OK},
		{"abc", 1, impl.Meaning{0, gap, 1, gap, 2}, impl.OK}, {"abc", 2, impl.Meaning{0, 1, gap, 2}, impl.OK}, {"abc", 3, impl.Meaning{0, 1, 2}, impl.OK}, {"abc", 8, impl.Meaning{0, 1, 2}, impl.OK},
		{"abcd", 1, impl.Meaning{0, gap, 1, gap, 2, gap, 3}, impl.OK}, {"abcde", 1, nil, impl.ErrLimit},
		{"abcdef", 2, impl.Meaning{0, 1, gap, 2, 3, gap, 4, 5}, impl.OK}, {"abcdefg", 2, nil, impl.ErrLimit}, {"abcdefgh", 2, nil, impl.ErrLimit},
		{"abcdef", 3, impl.Meaning{0, 1, 2, gap, 3, 4, 5}, impl.OK}, {"abcdefg", 3, nil, impl.ErrLimit}, {"abcdefg", 4, impl.Meaning{0, 1, 2, 3, gap, 4, 5, 6}, impl.OK},
		{"abcdefg", 6, impl.Meaning{0, 1, 2, 3, 4, 5, gap, 6}, impl.OK}, {"abcdefg", 7, impl.Meaning{0, 1, 2, 3, 4, 5, 6}, impl.OK},
		{"abcdefgh", 7, nil, impl.ErrLimit}, {"abcdefgh", 4, nil, impl.ErrLimit}, {"abcdefgh", 1, nil, impl.ErrLimit}, {"abcdefgh", 8, impl.Meaning{0, 1, 2, 3, 4, 5, 6, 7}, impl.OK},
		{"abcdefg{", 1, nil, impl.ErrRange}, {"abcdefghi", 1, nil, impl.ErrRange}, {"abcdefghi", 8, nil, impl.ErrRange}, {"abcdefgh", 0, nil, impl.ErrRange}, {"abcdefgh", 9, nil, impl.ErrRange}, {"", 1, nil, impl.ErrRange},
	}
	for _, test := range tests {
		same(t, fmt.Sprint(test.word, test.group), results(impl.SpellWord(test.word, test.group)), test.m, test.want)
	}
	for _, group := range bookExtremes {
		want := int64(impl.OK)
		if group < 1 || group > 8 {
			want = impl.ErrRange
		}
		_, code := impl.SpellWord("abc", group)
		same(t, fmt.Sprint("group ", group), results(code), want)
		for _, word := range badWords() {
			same(t, strconv.Quote(word[:min(len(word), 20)]), results(impl.SpellWord(word, group)), impl.Meaning(nil), impl.ErrRange)
		}
	}
	for n := range 256 {
		letter := string([]byte{byte(n)})
		for _, word := range []string{letter, "abc" + letter, letter + "abc", "a" + letter + "c"} {
			_, one := impl.SpellWord(word, 4)
			_, two := impl.HoistsForText(word, 0)
			isLetter := n >= 'a' && n <= 'z'
			same(t, strconv.Quote(word), results(one == impl.OK, two == impl.OK), isLetter, isLetter || word == "a c")
		}
	}
}

func TestPromise8SpelledWord(t *testing.T) {
	const gap = impl.Break
	tests := []struct {
		m    impl.Meaning
		word string
		want int64
	}{
		{impl.Meaning{0}, "a", impl.OK}, {impl.Meaning{25}, "z", impl.OK}, {impl.Meaning{26}, "", impl.ErrRange}, {impl.Meaning{39}, "", impl.ErrRange},
		{impl.Meaning{0, gap, 25, gap, 1}, "azb", impl.OK}, {impl.Meaning{0, gap, 26}, "", impl.ErrRange}, {impl.Meaning{26, gap, 0}, "", impl.ErrRange}, {impl.Meaning{0, 1, 26, 2}, "", impl.ErrRange},
		{impl.Meaning{0, gap, 1, 2, 3, gap, 4, 5}, "abcdef", impl.OK}, {impl.Meaning{7, 6, 5, 4, 3, 2, 1, 0}, "hgfedcba", impl.OK}, {impl.Meaning{7, 6, 5, 4, 3, 2, 1, 26}, "", impl.ErrRange},
		{impl.Meaning{26, -1}, "", impl.ErrInvalid}, {impl.Meaning{26, gap}, "", impl.ErrInvalid}, {impl.Meaning{40}, "", impl.ErrInvalid}, {nil, "", impl.ErrInvalid},
	}
	for _, test := range tests {
		same(t, fmt.Sprint(test.m), results(impl.SpelledWord(test.m)), test.word, test.want)
	}
	for kind := range int8(40) {
		want := int64(impl.OK)
		if kind > 25 {
			want = impl.ErrRange
		}
		_, code := impl.SpelledWord(impl.Meaning{3, kind})
		same(t, fmt.Sprint("kind ", kind), results(code), want)
	}
	for _, bad := range badMeanings() {
		same(t, "no meaning", results(impl.SpelledWord(bad)), "", impl.ErrInvalid)
	}
}

// toldHoistFor tries all hoists for a word, with as few sets as there can be.
func toldHoistFor(word string, subs int64) impl.Hoist {
	all := toldHoists(toldSpelled(word, 8))
	for sets := int64(1); ; sets++ {
		for _, h := range all {
			if toldWithin(h, sets, subs) {
				return h
			}
		}
	}
}

func TestPromise8LeastSets(t *testing.T) {
	for _, word := range []string{"a", "aa", "aaa", "aaaa", "aaaaa", "aaaaaa", "anna", "banana", "zzyyzz", "abcabc", "hello", "abcdee", "missis", "noon"} {
		for subs := int64(0); subs <= 4; subs++ {
			want := toldHoistFor(word, subs)
			same(t, fmt.Sprint(word, subs), results(impl.HoistsForText(word, subs)), []impl.Hoist{want}, impl.OK)
			same(t, fmt.Sprint(word, subs), results(impl.HoistsForText("az "+word+" az", subs)), []impl.Hoist{{0, 25}, want, {0, 25}}, impl.OK)
		}
	}
}

func TestPromise8Hoists(t *testing.T) {
	tests := []struct {
		text string
		subs int64
		want []impl.Hoist
	}{
		{"a", 0, []impl.Hoist{{0}}},
		{"anna", 0, []impl.Hoist{{0, 13, 13, 0}}},
		{"anna", 1, []impl.Hoist{{0, 13, 13, -1}}},
		{"anna", 4, []impl.Hoist{{0, 13, -2, -1}}},
		{"aaa", 1, []impl.Hoist{{0, -1, -1}}},
		{"aaa", 4, []impl.Hoist{{0, -1, -2}}},
		{"no no", 4, []impl.Hoist{{13, 14}, {13, 14}}}, // each hoist has the sets for itself
		{"aa aa aa", 1, []impl.Hoist{{0, -1}, {0, -1}, {0, -1}}},
		{"abcdefgh z", 0, []impl.Hoist{{0, 1, 2, 3, 4, 5, 6, 7}, {25}}},
	}
	for _, test := range tests {
		same(t, fmt.Sprint(test.text, test.subs), results(impl.HoistsForText(test.text, test.subs)), test.want, impl.OK)
	}
}

// longTexts returns texts of 200 bytes.
func longTexts() []string {
	return []string{"ab" + strings.Repeat(" a", 99), strings.Repeat("abcdefgh ", 22) + "zz", strings.Repeat("a ", 99) + "zz", strings.Repeat("aaaaaaa ", 24) + "aaaaaaaa"}
}

func TestPromise8Texts(t *testing.T) {
	texts := append(longTexts(), "a", "a b", "yes no wait", "anna saw otto", "abcdefgh hgfedcba", "z z z z z z z z z z z z")
	words := someWords(300)
	for i := 0; i+9 < len(words); i += 1 + i%9 {
		texts = append(texts, strings.Join(words[i:i+1+i%9], " "))
	}
	for _, text := range texts {
		for subs := int64(0); subs <= 4; subs++ {
			list, code := impl.HoistsForText(text, subs)
			same(t, text, results(code), impl.OK)
			same(t, text, results(int64(len(list))), int64(len(strings.Split(text, " "))))
			for i, word := range strings.Split(text, " ") {
				same(t, text, results(impl.MeaningOf(list[i])), toldSpelled(word, 8), impl.OK)
				sets, _ := impl.LeastSets(toldSpelled(word, 8), subs)
				if !toldWithin(list[i], sets, subs) {
					t.Errorf("%s: %v needs more than %d sets, or more than %d substitutes", word, list[i], sets, subs)
				}
			}
			same(t, text, results(impl.TextFromHoists(list)), text, impl.OK)
		}
	}
}

func TestPromise8NoTexts(t *testing.T) {
	texts := []string{
		"", " ", "  ", " a", "a ", "a  b", " a b", "a b ", "a   b", "a\tb", "a\nb", "a,b", "yes No", "yes n0", "a b é", "abcdefghi", "a abcdefghi", "abcdefghi a", "a b\x00", "\xff",
		strings.Repeat("a", 9), strings.Repeat("a", 200), strings.Repeat(" ", 200), strings.Repeat("a ", 100),
	}
	for _, text := range longTexts() { // of 201 bytes
		texts = append(texts, "a"+text, text+"a", text+" ", " "+text, strings.Replace(text, " ", "  ", 1))
	}
	texts = append(texts, "ab"+strings.Repeat(" ab", 66)+" a", "abc"+strings.Repeat(" a", 99), strings.Repeat("a ", 500000), strings.Repeat("a", 1000000), strings.Repeat(" ", 1000000))
	for _, text := range texts {
		for subs := int64(-1); subs <= 5; subs++ {
			same(t, strconv.Quote(text[:min(len(text), 60)]), results(impl.HoistsForText(text, subs)), []impl.Hoist(nil), impl.ErrRange)
		}
	}
	for _, text := range longTexts() {
		same(t, "bytes of a long text", results(int64(len(text))), 200)
	}
	for _, subs := range bookExtremes {
		want := int64(impl.OK)
		if subs < 0 || subs > 4 {
			want = impl.ErrRange
		}
		list, code := impl.HoistsForText("yes no", subs)
		same(t, fmt.Sprint("subs ", subs), results(code, len(list) == 2), want, want == impl.OK)
	}
}

// TestPromise8EveryShortText holds HoistsForText against a pattern of texts.
func TestPromise8EveryShortText(t *testing.T) {
	pattern := regexp.MustCompile(`^[a-z]{1,8}( [a-z]{1,8})*$`)
	for text := range everyText(" `az{", 5) {
		hoists, code := impl.HoistsForText(text, 4)
		if !pattern.MatchString(text) {
			same(t, strconv.Quote(text), results(hoists, code), []impl.Hoist(nil), impl.ErrRange)
			continue
		}
		same(t, text, results(code), impl.OK)
		same(t, text, results(impl.TextFromHoists(hoists)), text, impl.OK)
	}
}

func repeated(h impl.Hoist, count int) []impl.Hoist {
	list := make([]impl.Hoist, count)
	for i := range list {
		list[i] = slices.Clone(h)
	}
	return list
}

func TestPromise8TextFromHoists(t *testing.T) {
	const gap = impl.Break
	hundred := strings.TrimSuffix(strings.Repeat("aa ", 100), " ")
	last := func(list []impl.Hoist, h impl.Hoist) []impl.Hoist { return append(list[:len(list)-1], h) }
	tests := []struct {
		name string
		list []impl.Hoist
		text string
		want int64
	}{
		{"none", nil, "", impl.OK},
		{"one", []impl.Hoist{{0, 13, -2, -1}}, "anna", impl.OK},
		{"substitutes of substitutes", []impl.Hoist{{25, -1, -2}, {1, 0, 13, -2, -3, -4}}, "zzz banana", impl.OK},
		{"groups", []impl.Hoist{{0, 1, gap, 2}, {0, -1, gap, 1, -1, gap, 25}}, "abc aabbz", impl.OK},
		{"with flags only", []impl.Hoist{{0, 13, 13, 0}, {0}}, "anna a", impl.OK},
		{"kind 26", []impl.Hoist{{26}}, "", impl.ErrRange},
		{"kind 25", []impl.Hoist{{25}}, "z", impl.OK},
		{"kind 39 behind others", []impl.Hoist{{0}, {0, 1, 39}}, "", impl.ErrRange},
		{"kind 26 in the second group", []impl.Hoist{{0, gap, 26, -1}, {0}}, "", impl.ErrRange},
		{"a hundred", repeated(impl.Hoist{0, -1}, 100), hundred, impl.OK},
		{"one more", repeated(impl.Hoist{0, -1}, 101), "", impl.ErrRange},
		{"a million", repeated(impl.Hoist{0}, 500000), "", impl.ErrRange},
		{"a hundred, the last one of kind 26", last(repeated(impl.Hoist{0}, 100), impl.Hoist{26}), "", impl.ErrRange},
		{"a hundred, the last one invalid", last(repeated(impl.Hoist{0}, 100), impl.Hoist{-1}), "", impl.ErrInvalid},
		{"too many, the last one invalid", last(repeated(impl.Hoist{0}, 101), nil), "", impl.ErrInvalid},
		{"kind 26 before an invalid one", []impl.Hoist{{26}, {0, -2}}, "", impl.ErrInvalid},
		{"too many of kind 26, the last one invalid", last(repeated(impl.Hoist{26}, 200), impl.Hoist{40}), "", impl.ErrInvalid},
	}
	for _, test := range tests {
		same(t, test.name, results(impl.TextFromHoists(test.list)), test.text, test.want)
	}
	for _, bad := range badHoists() {
		same(t, "first", results(impl.TextFromHoists([]impl.Hoist{bad, {0}})), "", impl.ErrInvalid)
		same(t, "last", results(impl.TextFromHoists([]impl.Hoist{{0}, {30}, bad})), "", impl.ErrInvalid)
	}
	for _, h := range someHoists(400) {
		m, _ := toldMeaning(h)
		word := ""
		for _, kind := range m {
			if kind != gap {
				word += string(rune('a' + kind))
			}
		}
		want := int64(impl.OK)
		if slices.Max(m) > 25 {
			word, want = "", impl.ErrRange
		}
		same(t, toldText(h), results(impl.TextFromHoists([]impl.Hoist{h})), word, want)
	}
}
