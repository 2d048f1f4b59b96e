package tests

import (
	"math"
	"regexp"
	"slices"
	"strconv"
	"strings"

	"loop.example/g01299/impl"
)

// bookExtremes are numbers at and around all bounds of chapter 3, numbers that are other ones as int8, and the ends of int64.
var bookExtremes = []int64{math.MinInt64, -256, -255, -1, 0, 1, 2, 3, 4, 5, 6, 7, 8, 9, 10, 14, 15, 39, 84, 85, 99, 100, 101, 255, 256, 257, 819, 820, 999999, 1000000, 1000001, 1 << 32, math.MaxInt64}

// book returns a book with the phrases that follow.
func book(kinds, length, subs int8, phrases ...string) impl.Book {
	return impl.Book{Kinds: kinds, Length: length, Subs: subs, Phrases: phrases}
}

// filled returns a book with so many phrases, none of which is like another one.
func filled(kinds, length, subs int8, size int) impl.Book {
	b := book(kinds, length, subs)
	for i := range size {
		b.Phrases = append(b.Phrases, "phrase "+strconv.Itoa(i*37%1009))
	}
	return b
}

func toldSameBook(a, b impl.Book) bool {
	if a.Kinds != b.Kinds || a.Length != b.Length || a.Subs != b.Subs || len(a.Phrases) != len(b.Phrases) {
		return false
	}
	for i, phrase := range a.Phrases {
		if phrase != b.Phrases[i] {
			return false
		}
	}
	return true
}

var meaningsKnown = map[[3]int8][]impl.Meaning{}

// toldMeanings tries all hoists of one group with one set, and returns what they mean in the order of the ranks.
func toldMeanings(kinds, length, subs int8) []impl.Meaning {
	scheme := [3]int8{kinds, length, subs}
	if list, known := meaningsKnown[scheme]; known {
		return list
	}
	var from []int8
	for number := -subs; number < kinds; number++ {
		from = append(from, number)
	}
	var list []impl.Meaning
	known := map[string]bool{}
	for n := 1; n <= int(length); n++ {
		start := len(list)
		for h := range everyList(from, n) {
			m, valid := toldMeaning(h)
			if text := toldText(impl.Hoist(m)); valid && toldSets(h) == 1 && !known[text] {
				known[text] = true
				list = append(list, m)
			}
		}
		slices.SortFunc(list[start:], func(a, b impl.Meaning) int { return slices.Compare(a, b) })
	}
	meaningsKnown[scheme] = list
	return list
}

// toldMeant returns the meanings of the phrases of a book.
func toldMeant(b impl.Book) []impl.Meaning {
	return toldMeanings(b.Kinds, b.Length, b.Subs)[:len(b.Phrases)]
}

// toldBegins reports whether a meaning begins with another one.
func toldBegins(m, begun impl.Meaning) bool {
	return strings.HasPrefix(toldText(impl.Hoist(m))+" ", toldText(impl.Hoist(begun))+" ")
}

// toldUntilSure returns FlagsUntilSure as the document tells it.
func toldUntilSure(meant []impl.Meaning, i int) int64 {
	for n := 1; n <= len(meant[i]); n++ {
		others := 0
		for j, m := range meant {
			if j != i && toldBegins(m, meant[i][:n]) {
				others++
			}
		}
		if others == 0 {
			return int64(n)
		}
	}
	return int64(len(meant[i])) + 1
}

var phrasePattern = regexp.MustCompile(`^[ -~]{1,40}$`)

// toldValidBook reports whether a book is valid as the document tells it.
func toldValidBook(b impl.Book) bool {
	if b.Kinds < 1 || b.Kinds > 10 || b.Length < 1 || b.Length > 3 || b.Subs < 0 || b.Subs > 4 {
		return false
	}
	if len(b.Phrases) > 100 || len(b.Phrases) > len(toldMeanings(b.Kinds, b.Length, b.Subs)) {
		return false
	}
	for i, phrase := range b.Phrases {
		if !phrasePattern.MatchString(phrase) || slices.Contains(b.Phrases[:i], phrase) {
			return false
		}
	}
	return true
}

var bookPattern = regexp.MustCompile(`^([1-9]|10) ([1-3]) ([0-4])\n((?:[ -~]{1,40}\n)*)$`)

// toldBook reads the text of a book, and reports whether it is one.
func toldBook(text string) (impl.Book, bool) {
	parts := bookPattern.FindStringSubmatch(text)
	if parts == nil {
		return impl.Book{}, false
	}
	var numbers [3]int8
	for i := range numbers {
		number, _ := strconv.Atoi(parts[1+i])
		numbers[i] = int8(number)
	}
	b := book(numbers[0], numbers[1], numbers[2])
	for line := range strings.Lines(parts[4]) {
		b.Phrases = append(b.Phrases, strings.TrimSuffix(line, "\n"))
	}
	if !toldValidBook(b) {
		return impl.Book{}, false
	}
	return b, true
}

// manyBooks returns valid books with no phrase, with some, and with as many as there may be.
func manyBooks() []impl.Book {
	list := []impl.Book{
		book(3, 2, 0, "yes", "no", "wait", "come", "go"),
		book(2, 3, 1, " ", "  ", "~", strings.Repeat("~", 40), " a", "a ", "A", "a", "1 2 3"),
		book(3, 3, 0, "no", "yes"),
	}
	for _, kinds := range []int8{1, 2, 3, 10} {
		for length := int8(1); length <= 3; length++ {
			for subs := int8(0); subs <= 4; subs++ {
				most := min(len(toldMeanings(kinds, length, subs)), 100)
				for _, size := range slices.Compact([]int{0, min(1, most), most / 2, most - 1, most}) {
					list = append(list, filled(kinds, length, subs, size))
				}
			}
		}
	}
	return list
}

// badBooks returns books each of which is not valid for one reason.
func badBooks() []impl.Book {
	list := []impl.Book{
		{}, book(0, 1, 0), book(11, 1, 0), book(-1, 1, 0), book(-128, 1, 0), book(127, 1, 0), book(40, 1, 0),
		book(1, 0, 0), book(1, 4, 0), book(1, -1, 0), book(10, 127, 4), book(10, -128, 4), book(10, 8, 4),
		book(1, 1, -1), book(1, 1, 5), book(10, 3, -128), book(10, 3, 127), book(0, 0, -1, ""),
		filled(1, 1, 0, 2), filled(1, 3, 0, 2), filled(1, 2, 1, 3), filled(2, 2, 0, 5), filled(3, 2, 0, 10), filled(3, 2, 1, 13), filled(4, 2, 0, 17),
		filled(10, 3, 0, 101), filled(10, 2, 0, 101), filled(10, 2, 1, 101), filled(10, 3, 4, 111), {Kinds: 10, Length: 3, Phrases: make([]string, 1000000)},
		book(3, 2, 0, ""), book(3, 2, 0, "yes", ""), book(3, 2, 0, strings.Repeat("a", 41)), book(3, 2, 0, "yes", strings.Repeat("a", 1000000)),
		book(3, 2, 0, "yes", "yes"), book(3, 2, 0, "yes", "no", "wait", "yes"), book(3, 2, 0, " ", " "),
	}
	for _, text := range []string{"\x00", "\x1f", "\x7f", "\x80", "\xff", "\n", "\t", "\r", "é", "yes\n", "\nyes", "ye\x1fs", "ye\x7fs", "\x1fyes", "yes\x7f", "ｙｅｓ"} {
		list = append(list, book(3, 2, 0, text), book(3, 2, 0, "yes", "no", text))
	}
	return list
}

// badPhrases returns texts that cannot be phrases.
func badPhrases() []string {
	return []string{"", strings.Repeat("a", 41), strings.Repeat(" ", 41), strings.Repeat("a", 1000000), "\x1f", "\x7f", "\x00", "\xff", "\n", "no\x1f", "\x7fno", "n\x1fo", "n\x7fo", "é", "no\n"}
}

// bookMeanings returns all valid meanings of up to four numbers that are less than 4, breaks being among them, and some others.
func bookMeanings() []impl.Meaning {
	list := []impl.Meaning{{9}, {10}, {39}, {9, 9, 9}, {0, 10}, {39, 0}, {0, 1, 2, 3, 4, 5, 6, 7}, {0, 0, 0, 0, 0, 0, 0, 0}, {0, impl.Break, 0, impl.Break, 0, impl.Break, 1, 1}}
	for length := 1; length <= 4; length++ {
		for h := range everyList([]int8{impl.Break, 0, 1, 2, 3}, length) {
			if _, valid := toldMeaning(h); valid {
				list = append(list, impl.Meaning(h))
			}
		}
	}
	return list
}
