package tests

import (
	"fmt"
	"slices"
	"strings"
	"testing"

	"loop.example/g01299/impl"
)

// nameOf tells which book a test is about.
func nameOf(b impl.Book) string {
	return fmt.Sprintf("kinds %d, length %d, subs %d, %d phrases", b.Kinds, b.Length, b.Subs, len(b.Phrases))
}

func TestPromise6Example(t *testing.T) {
	same(t, "room without substitutes", results(impl.RoomOf(book(3, 2, 0))), 9, impl.OK)
	same(t, "room with one", results(impl.RoomOf(book(3, 2, 1))), 12, impl.OK)
	same(t, "rank without substitutes", results(impl.RankOf(book(3, 2, 0), impl.Meaning{1, 0})), 5, impl.OK)
	same(t, "rank with one", results(impl.RankOf(book(3, 2, 1), impl.Meaning{1, 0})), 6, impl.OK)
	one, many := 0, 0
	for rank := range int64(9) {
		m, _ := impl.MeaningAt(book(3, 2, 0), rank)
		switch {
		case len(m) == 1:
			one++
		case len(m) == 2 && m[0] != m[1]:
			many++
		}
	}
	same(t, "meanings of one flag, and of two", results(int64(one), int64(many)), 3, 6)
}

func TestPromise6ValidNumbers(t *testing.T) {
	for number := -128; number <= 127; number++ {
		n := int8(number)
		same(t, fmt.Sprint("kinds ", n), results(impl.ValidBook(book(n, 1, 0)), impl.ValidBook(book(n, 3, 4))), n >= 1 && n <= 10, n >= 1 && n <= 10)
		same(t, fmt.Sprint("length ", n), results(impl.ValidBook(book(1, n, 0)), impl.ValidBook(book(10, n, 4))), n >= 1 && n <= 3, n >= 1 && n <= 3)
		same(t, fmt.Sprint("subs ", n), results(impl.ValidBook(book(1, 1, n)), impl.ValidBook(book(10, 3, n))), n >= 0 && n <= 4, n >= 0 && n <= 4)
	}
	for _, b := range manyBooks() {
		same(t, nameOf(b), results(impl.ValidBook(b), toldValidBook(b)), true, true)
	}
	for _, b := range badBooks() {
		same(t, nameOf(b), results(impl.ValidBook(b), toldValidBook(b)), false, false)
	}
}

func TestPromise6ValidSizes(t *testing.T) {
	tests := []struct {
		kinds, length, subs int8
		most                int
	}{
		{1, 1, 0, 1}, {1, 1, 4, 1}, {1, 2, 0, 1}, {1, 2, 1, 2}, {1, 3, 1, 2}, {1, 3, 2, 3}, {2, 2, 0, 4}, {2, 3, 0, 4}, {2, 3, 1, 10}, {2, 3, 2, 14},
		{3, 2, 0, 9}, {3, 2, 1, 12}, {10, 1, 0, 10}, {10, 1, 4, 10}, {10, 2, 0, 100}, {10, 2, 1, 100}, {10, 3, 0, 100}, {10, 3, 4, 100}, {9, 2, 1, 90}, {9, 2, 0, 81},
	}
	for _, test := range tests {
		for _, size := range []int{0, 1, test.most - 1, test.most, test.most + 1, test.most + 2, 101, 102, 200} {
			b := filled(test.kinds, test.length, test.subs, size)
			same(t, nameOf(b), results(impl.ValidBook(b)), size <= test.most)
		}
	}
}

func TestPromise6ValidPhrases(t *testing.T) {
	for length := range 43 {
		phrase := strings.Repeat("x", length)
		want := length >= 1 && length <= 40
		same(t, "length of a phrase", results(impl.ValidBook(book(3, 2, 0, phrase)), impl.ValidBook(book(3, 2, 0, "yes", phrase))), want, want)
	}
	for n := range 256 {
		letter := string([]byte{byte(n)})
		want := n >= 32 && n <= 126
		for _, phrase := range []string{letter, letter + "yes", "yes" + letter, "y" + letter + "es", strings.Repeat("y", 39) + letter} {
			same(t, fmt.Sprint("byte ", n), results(impl.ValidBook(book(3, 2, 0, phrase)), impl.ValidBook(book(3, 2, 0, "no", phrase))), want, want)
			_, code := impl.AddPhrase(book(3, 2, 0), phrase)
			same(t, fmt.Sprint("byte ", n), results(code == impl.OK), want)
		}
	}
	for size := 3; size <= 100; size += 7 {
		b := filled(10, 3, 0, size)
		same(t, "no two are equal", results(impl.ValidBook(b)), true)
		for _, i := range []int{0, size / 2, size - 2} {
			twice := filled(10, 3, 0, size)
			twice.Phrases[size-1] = twice.Phrases[i]
			same(t, "two are equal", results(impl.ValidBook(twice)), false)
		}
	}
	same(t, "nearly equal", results(impl.ValidBook(book(3, 2, 0, "a", "A", "a ", " a", "aa"))), true)
}

func TestPromise6Same(t *testing.T) {
	list := append(badBooks(), manyBooks()...)
	for i, a := range list {
		list[i].Phrases = list[i].Phrases[:min(len(a.Phrases), 120)]
	}
	list = append(list, book(3, 2, 0, "no", "yes"), book(3, 2, 0, "yes", "no"), book(3, 2, 0, "yesno"), book(3, 2, 0, "yes no"), impl.Book{Phrases: []string{}}, impl.Book{})
	alike := 0
	for i, a := range list {
		for j, b := range list {
			want := toldSameBook(a, b)
			if impl.SameBook(a, b) != want {
				t.Errorf("%s, %s: want %t", nameOf(a), nameOf(b), want)
			}
			if want && i != j {
				alike++
			}
		}
		other := a
		other.Phrases = slices.Clone(a.Phrases)
		same(t, "a copy", results(impl.SameBook(a, other)), true)
		other.Phrases = append(other.Phrases, "")
		same(t, "with one more", results(impl.SameBook(a, other), impl.SameBook(other, a)), false, false)
	}
	if alike == 0 {
		t.Error("no two books are the same")
	}
	a := book(1, 2, 3, "yes")
	for _, b := range []impl.Book{book(2, 2, 3, "yes"), book(1, 3, 3, "yes"), book(1, 2, 4, "yes"), book(1, 2, 3, "yet"), book(1, 2, 3, "YES"), book(1, 2, 3), book(2, 1, 3, "yes"), book(1, 3, 2, "yes")} {
		same(t, "another one", results(impl.SameBook(a, b), impl.SameBook(b, a)), false, false)
	}
}

func TestPromise6Rooms(t *testing.T) {
	for kinds := int8(1); kinds <= 10; kinds++ {
		for length := int8(1); length <= 3; length++ {
			for subs := int8(0); subs <= 4; subs++ {
				b := book(kinds, length, subs)
				same(t, nameOf(b), results(impl.RoomOf(b)), len(toldMeanings(kinds, length, subs)), impl.OK)
			}
		}
	}
	tests := []struct {
		kinds, length, subs int8
		want                int64
	}{
		{1, 1, 0, 1}, {1, 3, 0, 1}, {1, 3, 1, 2}, {1, 3, 2, 3}, {1, 3, 4, 3}, {10, 1, 0, 10}, {10, 2, 0, 100}, {10, 2, 1, 110}, {10, 3, 0, 820}, {10, 3, 2, 1110}, {10, 3, 4, 1110},
		{10, 3, 1, 10 + 100 + 10*9*8 + 2*10*9}, // of three flags, the second or the third one may be the first one again
	}
	for _, test := range tests {
		same(t, fmt.Sprint(test), results(impl.RoomOf(book(test.kinds, test.length, test.subs))), test.want, impl.OK)
	}
}

// TestPromise6RoomOfAnyBook has books whose phrases are not valid, but whose numbers are as told, and the other way round.
func TestPromise6RoomOfAnyBook(t *testing.T) {
	for _, b := range badBooks() {
		inRange := b.Kinds >= 1 && b.Kinds <= 10 && b.Length >= 1 && b.Length <= 3 && b.Subs >= 0 && b.Subs <= 4
		if inRange {
			same(t, nameOf(b), results(impl.RoomOf(b)), len(toldMeanings(b.Kinds, b.Length, b.Subs)), impl.OK)
		} else {
			same(t, nameOf(b), results(impl.RoomOf(b)), 0, impl.ErrInvalid)
		}
	}
}

func TestPromise6Ranks(t *testing.T) {
	schemes := [][3]int8{{10, 1, 0}, {10, 2, 0}, {10, 2, 1}, {10, 3, 0}, {10, 3, 1}, {10, 3, 4}, {7, 3, 2}, {9, 3, 1}}
	for _, kinds := range []int8{1, 2, 3, 4} {
		for length := int8(1); length <= 3; length++ {
			for subs := int8(0); subs <= 4; subs++ {
				schemes = append(schemes, [3]int8{kinds, length, subs})
			}
		}
	}
	for _, s := range schemes {
		told := toldMeanings(s[0], s[1], s[2])
		for _, b := range []impl.Book{book(s[0], s[1], s[2]), filled(s[0], s[1], s[2], min(len(told), 3))} {
			for rank, m := range told {
				same(t, nameOf(b), results(impl.MeaningAt(b, int64(rank))), m, impl.OK)
				same(t, nameOf(b), results(impl.RankOf(b, m)), rank, impl.OK)
			}
			room := int64(len(told))
			for _, rank := range append([]int64{-1, room, room + 1, -room}, bookExtremes...) {
				if rank < 0 || rank >= room {
					same(t, nameOf(b), results(impl.MeaningAt(b, rank)), impl.Meaning(nil), impl.ErrRange)
				}
			}
		}
	}
}

func TestPromise6RankOfEveryShortMeaning(t *testing.T) {
	for _, kinds := range []int8{1, 2, 3} {
		for length := int8(1); length <= 3; length++ {
			for subs := int8(0); subs <= 3; subs++ {
				b := book(kinds, length, subs)
				told := toldMeanings(kinds, length, subs)
				for _, m := range bookMeanings() {
					rank := slices.IndexFunc(told, func(other impl.Meaning) bool { return slices.Equal(other, m) })
					if rank < 0 {
						same(t, fmt.Sprint(nameOf(b), m), results(impl.RankOf(b, m)), 0, impl.ErrNotFound)
					} else {
						same(t, fmt.Sprint(nameOf(b), m), results(impl.RankOf(b, m)), rank, impl.OK)
					}
				}
			}
		}
	}
}

func TestPromise6NoMeaningOfTheBook(t *testing.T) {
	const gap = impl.Break
	tests := []struct {
		b    impl.Book
		m    impl.Meaning
		want int64
	}{
		{book(3, 2, 0), impl.Meaning{1, 1}, impl.ErrNotFound},
		{book(3, 2, 1), impl.Meaning{1, 1}, impl.OK},
		{book(3, 3, 1), impl.Meaning{1, 1, 1}, impl.ErrNotFound},
		{book(3, 3, 2), impl.Meaning{1, 1, 1}, impl.OK},
		{book(3, 3, 1), impl.Meaning{0, 1, 1}, impl.ErrNotFound},
		{book(3, 3, 1), impl.Meaning{1, 1, 0}, impl.OK},
		{book(3, 3, 1), impl.Meaning{1, 0, 1}, impl.OK},
		{book(3, 3, 0), impl.Meaning{1, 0, 1}, impl.ErrNotFound},
		{book(3, 3, 4), impl.Meaning{1, gap, 2}, impl.ErrNotFound},
		{book(3, 3, 4), impl.Meaning{1, gap, 1}, impl.ErrNotFound},
		{book(3, 2, 4), impl.Meaning{1, gap, 2}, impl.ErrNotFound},
		{book(3, 2, 4), impl.Meaning{3}, impl.ErrNotFound},
		{book(3, 2, 4), impl.Meaning{0, 3}, impl.ErrNotFound},
		{book(10, 3, 4), impl.Meaning{10}, impl.ErrNotFound},
		{book(10, 3, 4), impl.Meaning{39, 0, 0}, impl.ErrNotFound},
		{book(3, 2, 4), impl.Meaning{0, 1, 2}, impl.ErrNotFound},
		{book(3, 3, 4), impl.Meaning{0, 1, 2, 0}, impl.ErrNotFound},
		{book(10, 3, 4), impl.Meaning{0, 1, 2, 3, 4, 5, 6, 7}, impl.ErrNotFound},
		{book(1, 1, 0), impl.Meaning{0}, impl.OK},
		{book(1, 1, 4), impl.Meaning{0, 0}, impl.ErrNotFound},
	}
	for _, test := range tests {
		rank, code := impl.RankOf(test.b, test.m)
		same(t, fmt.Sprint(nameOf(test.b), test.m), results(code), test.want)
		if code == impl.OK {
			same(t, fmt.Sprint(nameOf(test.b), test.m), results(impl.MeaningAt(test.b, rank)), test.m, impl.OK)
		} else {
			same(t, fmt.Sprint(nameOf(test.b), test.m), results(rank), 0)
		}
	}
}

func TestPromise6EachPhraseHasOneHoist(t *testing.T) {
	for _, b := range manyBooks() {
		for i, m := range toldMeant(b) {
			within := slices.DeleteFunc(toldHoists(m), func(h impl.Hoist) bool { return !toldWithin(h, 1, int64(b.Subs)) })
			h, code := impl.HoistOf(b, int64(i))
			same(t, nameOf(b), results(h, code), within[0], impl.OK)
			same(t, nameOf(b), results(impl.PhraseFor(b, h)), i, impl.OK)
		}
	}
}

// TestPromise6WhateverTheHoistIsMadeOf has hoists that need more sets, and more substitutes, than the book has.
func TestPromise6WhateverTheHoistIsMadeOf(t *testing.T) {
	others := 0
	for _, b := range manyBooks() {
		meant := toldMeant(b)
		for rank, m := range toldMeanings(b.Kinds, b.Length, b.Subs) {
			for _, h := range toldHoists(m) {
				if rank < len(meant) {
					same(t, nameOf(b)+": "+toldText(h), results(impl.PhraseFor(b, h)), rank, impl.OK)
				} else if rank == len(meant) || rank == len(meant)+1 {
					same(t, nameOf(b)+": "+toldText(h), results(impl.PhraseFor(b, h)), 0, impl.ErrNotFound)
				}
				if !toldWithin(h, 1, int64(b.Subs)) {
					others++
				}
			}
			if rank > len(meant) {
				break
			}
		}
	}
	if others < 100 {
		t.Errorf("only %d hoists are not the book's", others)
	}
}

func TestPromise6PhraseFor(t *testing.T) {
	const gap = impl.Break
	five, full := book(3, 2, 0, "yes", "no", "wait", "come", "go"), filled(3, 3, 1, 27)
	tests := []struct {
		b    impl.Book
		h    impl.Hoist
		want int64 // the index, or the negative code
	}{
		{five, impl.Hoist{0}, 0}, {five, impl.Hoist{2}, 2}, {five, impl.Hoist{0, 1}, 3}, {five, impl.Hoist{0, 2}, 4},
		{five, impl.Hoist{1, 0}, -impl.ErrNotFound}, {five, impl.Hoist{2, 1}, -impl.ErrNotFound}, {five, impl.Hoist{3}, -impl.ErrNotFound},
		{five, impl.Hoist{0, 0}, -impl.ErrNotFound}, {five, impl.Hoist{0, -1}, -impl.ErrNotFound}, {five, impl.Hoist{0, 1, 2}, -impl.ErrNotFound}, {five, impl.Hoist{0, gap, 1}, -impl.ErrNotFound},
		{full, impl.Hoist{0, -1}, 3}, {full, impl.Hoist{0, 0}, 3}, {full, impl.Hoist{1, 1}, 7}, {full, impl.Hoist{0, 0, 1}, 12}, {full, impl.Hoist{0, -1, 1}, 12}, {full, impl.Hoist{0, 1, -1}, 14},
		{full, impl.Hoist{0, -1, -1}, -impl.ErrNotFound}, {full, impl.Hoist{0, 1, -2}, -impl.ErrNotFound}, {full, impl.Hoist{0, -1, gap, 1}, -impl.ErrNotFound},
		{book(3, 2, 0), impl.Hoist{0}, -impl.ErrNotFound}, {book(1, 1, 0, "yes"), impl.Hoist{0}, 0}, {book(1, 1, 0, "yes"), impl.Hoist{0, -1}, -impl.ErrNotFound},
	}
	for _, test := range tests {
		i, code := impl.PhraseFor(test.b, test.h)
		same(t, nameOf(test.b)+": "+toldText(test.h), results(i-code), test.want)
	}
}

func TestPromise6IndicesAndErrors(t *testing.T) {
	for _, b := range manyBooks() {
		size := int64(len(b.Phrases))
		for _, i := range append([]int64{size - 1, size, size + 1}, bookExtremes...) {
			want := int64(impl.OK)
			if i < 0 || i >= size {
				want = impl.ErrRange
			}
			h, one := impl.HoistOf(b, i)
			flags, two := impl.FlagsUntilSure(b, i)
			dropped, three := impl.DropPhrase(b, i)
			put, four := impl.ReplacePhrase(b, i, "another one")
			same(t, fmt.Sprint(nameOf(b), " at ", i), results(one, two, three, four), want, want, want, want)
			if want == impl.ErrRange {
				same(t, nameOf(b), results(h, flags, dropped, put), impl.Hoist(nil), 0, impl.Book{}, impl.Book{})
			}
		}
	}
}

func TestPromise6Find(t *testing.T) {
	for _, b := range manyBooks() {
		for i, phrase := range b.Phrases {
			same(t, nameOf(b), results(impl.FindPhrase(b, phrase)), i, impl.OK)
			same(t, nameOf(b), results(impl.FindPhrase(b, phrase+"!")), 0, impl.ErrNotFound)
		}
		for _, phrase := range append(badPhrases(), "another one", "Phrase 0", "phrase") {
			same(t, nameOf(b), results(impl.FindPhrase(b, phrase)), 0, impl.ErrNotFound)
		}
	}
	b := book(2, 3, 1, " ", "  ", "a", "A", "a ", " a")
	for i, phrase := range b.Phrases {
		same(t, "nearly equal", results(impl.FindPhrase(b, phrase)), i, impl.OK)
	}
}

func TestPromise6Completions(t *testing.T) {
	begun := bookMeanings()
	for _, b := range manyBooks() {
		meant := toldMeant(b)
		for _, m := range begun {
			var want []int64
			for i, other := range meant {
				if toldBegins(other, m) {
					want = append(want, int64(i))
				}
			}
			same(t, fmt.Sprint(nameOf(b), m), results(impl.CompletionsOf(b, m)), want, impl.OK)
		}
	}
	five := book(3, 2, 0, "yes", "no", "wait", "come", "go")
	same(t, "one flag", results(impl.CompletionsOf(five, impl.Meaning{0})), []int64{0, 3, 4}, impl.OK)
	same(t, "itself alone", results(impl.CompletionsOf(five, impl.Meaning{1})), []int64{1}, impl.OK)
	same(t, "the whole", results(impl.CompletionsOf(five, impl.Meaning{0, 2})), []int64{4}, impl.OK)
	same(t, "no phrase", results(impl.CompletionsOf(five, impl.Meaning{1, 0})), []int64(nil), impl.OK)
	same(t, "what cannot be hoisted", results(impl.CompletionsOf(five, impl.Meaning{0, 0})), []int64(nil), impl.OK)
	same(t, "a longer one", results(impl.CompletionsOf(five, impl.Meaning{0, 1, 2})), []int64(nil), impl.OK)
	same(t, "two groups", results(impl.CompletionsOf(five, impl.Meaning{0, impl.Break, 1})), []int64(nil), impl.OK)
}

func TestPromise6UntilSure(t *testing.T) {
	sure := map[int64]bool{}
	for _, b := range manyBooks() {
		meant := toldMeant(b)
		for i := range b.Phrases {
			n, code := impl.FlagsUntilSure(b, int64(i))
			same(t, nameOf(b), results(n, code), toldUntilSure(meant, i), impl.OK)
			sure[n] = true
		}
	}
	same(t, "how many different numbers", results(int64(len(sure))), 3)
	tests := []struct {
		b    impl.Book
		want []int64
	}{
		{book(1, 1, 0, "yes"), []int64{1}},
		{book(3, 2, 0, "yes", "no", "wait", "come", "go"), []int64{2, 1, 1, 2, 2}},
		{filled(1, 3, 2, 1), []int64{1}},
		{filled(1, 3, 2, 2), []int64{2, 2}},
		{filled(1, 3, 2, 3), []int64{2, 3, 3}},
		{filled(2, 3, 1, 7), []int64{2, 2, 3, 2, 2, 2, 3}},
	}
	for _, test := range tests {
		for i, want := range test.want {
			same(t, fmt.Sprint(nameOf(test.b), " at ", i), results(impl.FlagsUntilSure(test.b, int64(i))), want, impl.OK)
		}
	}
}

func TestPromise6Add(t *testing.T) {
	for _, b := range manyBooks() {
		full := len(b.Phrases) == min(len(toldMeanings(b.Kinds, b.Length, b.Subs)), 100)
		for _, phrase := range []string{"another one", "~", strings.Repeat("z", 40)} {
			wantBook, want := b, int64(impl.OK)
			wantBook.Phrases = slices.Concat(b.Phrases, []string{phrase})
			if full {
				wantBook, want = impl.Book{}, impl.ErrLimit
			}
			if slices.Contains(b.Phrases, phrase) {
				wantBook, want = impl.Book{}, impl.ErrState
			}
			same(t, nameOf(b)+": "+phrase, results(impl.AddPhrase(b, phrase)), wantBook, want)
		}
		for _, phrase := range badPhrases() { // before the limit
			same(t, nameOf(b), results(impl.AddPhrase(b, phrase)), impl.Book{}, impl.ErrRange)
		}
		for _, phrase := range b.Phrases { // before the limit, too
			same(t, nameOf(b), results(impl.AddPhrase(b, phrase)), impl.Book{}, impl.ErrState)
		}
	}
	same(t, "as many as there may be, in a greater room", results(impl.AddPhrase(filled(10, 3, 4, 100), "another one")), impl.Book{}, impl.ErrLimit)
	same(t, "one less", results(impl.AddPhrase(filled(1, 3, 2, 2), "go")), book(1, 3, 2, "phrase 0", "phrase 37", "go"), impl.OK)
}

// someIndices returns a few indices of so many phrases, the first ones and the last ones being among them.
func someIndices(size int) []int {
	list := []int{0, 1, size / 3, size / 2, size - 2, size - 1}
	list = slices.DeleteFunc(list, func(i int) bool { return i < 0 || i >= size })
	slices.Sort(list)
	return slices.Compact(list)
}

func TestPromise6Drop(t *testing.T) {
	for _, b := range manyBooks() {
		for _, i := range someIndices(len(b.Phrases)) {
			want := b
			want.Phrases = slices.Delete(slices.Clone(b.Phrases), i, i+1)
			dropped, code := impl.DropPhrase(b, int64(i))
			same(t, nameOf(b), results(dropped, code), want, impl.OK)
			for j := i + 1; j < len(b.Phrases); j++ {
				same(t, "one place nearer", results(impl.FindPhrase(dropped, b.Phrases[j])), j-1, impl.OK)
			}
		}
	}
}

func TestPromise6Replace(t *testing.T) {
	for _, b := range manyBooks() {
		for _, i := range someIndices(len(b.Phrases)) {
			want := b
			want.Phrases = slices.Clone(b.Phrases)
			want.Phrases[i] = "another one"
			same(t, nameOf(b), results(impl.ReplacePhrase(b, int64(i), "another one")), want, impl.OK)
			same(t, nameOf(b), results(impl.ReplacePhrase(b, int64(i), b.Phrases[i])), impl.Book{}, impl.ErrState)
			same(t, nameOf(b), results(impl.ReplacePhrase(b, int64(i), b.Phrases[0])), impl.Book{}, impl.ErrState)
			same(t, nameOf(b), results(impl.ReplacePhrase(b, int64(i), b.Phrases[len(b.Phrases)-1])), impl.Book{}, impl.ErrState)
			for _, phrase := range badPhrases()[:6] {
				same(t, nameOf(b), results(impl.ReplacePhrase(b, int64(i), phrase)), impl.Book{}, impl.ErrRange)
			}
		}
		for _, i := range []int64{-1, int64(len(b.Phrases))} { // the index comes first
			for _, phrase := range append(badPhrases()[:2], b.Phrases...) {
				same(t, nameOf(b), results(impl.ReplacePhrase(b, i, phrase)), impl.Book{}, impl.ErrRange)
			}
		}
	}
}

func TestPromise6Moved(t *testing.T) {
	list := []impl.Book{
		book(3, 2, 0, "yes", "no", "wait", "come", "go"), book(3, 2, 0, "yes", "wait", "come", "go"), book(3, 2, 0, "go", "come", "wait", "no", "yes"),
		book(3, 2, 1, "yes", "no", "wait", "come", "go"), book(2, 2, 0, "yes", "no", "wait", "come"), book(3, 1, 0, "no"), book(3, 2, 0), book(3, 3, 4, "aye", "no"),
		filled(3, 3, 1, 20), filled(3, 3, 2, 20), filled(3, 3, 2, 36), filled(10, 3, 4, 100), filled(10, 3, 0, 100), filled(1, 3, 4, 3),
	}
	for _, a := range list {
		for _, b := range list {
			var want []int64
			for i, phrase := range a.Phrases {
				j := slices.Index(b.Phrases, phrase)
				if j >= 0 && !slices.Equal(toldMeant(a)[i], toldMeant(b)[j]) {
					want = append(want, int64(i))
				}
			}
			same(t, nameOf(a)+" - "+nameOf(b), results(impl.MovedPhrases(a, b)), want, impl.OK)
		}
	}
	same(t, "behind one that is dropped", results(impl.MovedPhrases(list[0], list[1])), []int64{2, 3, 4}, impl.OK)
	same(t, "with another one in its place", results(impl.MovedPhrases(book(3, 2, 0, "yes", "no"), book(3, 2, 0, "aye", "no"))), []int64(nil), impl.OK)
	same(t, "turned round", results(impl.MovedPhrases(list[0], list[2])), []int64{0, 1, 3, 4}, impl.OK)
	// With a substitute 0 0 comes in between, so that the ranks from 3 on have other meanings.
	same(t, "the same phrases with a substitute", results(impl.MovedPhrases(list[0], list[3])), []int64{3, 4}, impl.OK)
	same(t, "another rank, but the same meaning", results(impl.MovedPhrases(book(3, 2, 0, "a", "b", "c", "d"), book(2, 2, 0, "a", "b", "d", "c"))), []int64{2}, impl.OK)
}

func TestPromise6Invalid(t *testing.T) {
	good, m, h := book(3, 2, 0, "yes"), impl.Meaning{0}, impl.Hoist{0}
	for _, b := range badBooks() {
		for _, i := range []int64{-1, 0, 1, 2000000} {
			same(t, nameOf(b), results(impl.MeaningAt(b, i)), impl.Meaning(nil), impl.ErrInvalid)
			same(t, nameOf(b), results(impl.HoistOf(b, i)), impl.Hoist(nil), impl.ErrInvalid)
			same(t, nameOf(b), results(impl.FlagsUntilSure(b, i)), 0, impl.ErrInvalid)
			same(t, nameOf(b), results(impl.DropPhrase(b, i)), impl.Book{}, impl.ErrInvalid)
			for _, phrase := range []string{"go", "yes", "", "\n"} {
				same(t, nameOf(b), results(impl.ReplacePhrase(b, i, phrase)), impl.Book{}, impl.ErrInvalid)
			}
		}
		for _, phrase := range []string{"go", "yes", "", "\n"} {
			same(t, nameOf(b), results(impl.AddPhrase(b, phrase)), impl.Book{}, impl.ErrInvalid)
			same(t, nameOf(b), results(impl.FindPhrase(b, phrase)), 0, impl.ErrInvalid)
		}
		same(t, nameOf(b), results(impl.RankOf(b, m)), 0, impl.ErrInvalid)
		same(t, nameOf(b), results(impl.RankOf(b, impl.Meaning{30, 30})), 0, impl.ErrInvalid)
		same(t, nameOf(b), results(impl.PhraseFor(b, h)), 0, impl.ErrInvalid)
		same(t, nameOf(b), results(impl.PhraseFor(b, impl.Hoist{30, 30})), 0, impl.ErrInvalid)
		same(t, nameOf(b), results(impl.CompletionsOf(b, m)), []int64(nil), impl.ErrInvalid)
		same(t, nameOf(b), results(impl.MovedPhrases(b, good)), []int64(nil), impl.ErrInvalid)
		same(t, nameOf(b), results(impl.MovedPhrases(good, b)), []int64(nil), impl.ErrInvalid)
		same(t, nameOf(b), results(impl.MovedPhrases(b, b)), []int64(nil), impl.ErrInvalid)
	}
	for _, bad := range badMeanings() {
		same(t, "rank", results(impl.RankOf(good, bad)), 0, impl.ErrInvalid)
		same(t, "completions", results(impl.CompletionsOf(good, bad)), []int64(nil), impl.ErrInvalid)
	}
	for _, bad := range badHoists() {
		same(t, "phrase", results(impl.PhraseFor(good, bad)), 0, impl.ErrInvalid)
	}
}
