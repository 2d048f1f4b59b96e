package tests

import (
	"reflect"
	"slices"
	"strings"
	"testing"

	"loop.example/g01299/impl"
)

// bookCalls returns, for some arguments, the results of all functions of chapter 3 that take books, RoomOf first.
func bookCalls(b, other impl.Book, m impl.Meaning, h impl.Hoist, i int64, phrase string, counts []int64) [][]any {
	return [][]any{
		results(impl.RoomOf(b)),
		results(impl.RankOf(b, m)),
		results(impl.MeaningAt(b, i)),
		results(impl.HoistOf(b, i)),
		results(impl.PhraseFor(b, h)),
		results(impl.FindPhrase(b, phrase)),
		results(impl.CompletionsOf(b, m)),
		results(impl.FlagsUntilSure(b, i)),
		results(impl.FlagsFor(b, counts)),
		results(impl.ShortestBook(b, counts)),
		results(impl.AddPhrase(b, phrase)),
		results(impl.DropPhrase(b, i)),
		results(impl.ReplacePhrase(b, i, phrase)),
		results(impl.MovedPhrases(b, other)),
		results(impl.MovedPhrases(other, b)),
		results(impl.ReadBook(impl.BookText(b))),
		results(impl.ValidBook(b), impl.SameBook(b, other), impl.BookText(b), int64(impl.OK)),
	}
}

// spellCalls returns, for some arguments, the results of the functions of chapter 3 that take no books.
func spellCalls(text string, group, subs int64, m impl.Meaning, list []impl.Hoist) [][]any {
	return [][]any{
		results(impl.SpellWord(text, group)),
		results(impl.SpelledWord(m)),
		results(impl.HoistsForText(text, subs)),
		results(impl.TextFromHoists(list)),
		results(impl.ReadBook(text)),
	}
}

// copied returns a book with a copy of the phrases, which has no capacity left.
func copied(b impl.Book) impl.Book {
	b.Phrases = slices.Clip(slices.Clone(b.Phrases))
	return b
}

func TestPromise1BooksAllArguments(t *testing.T) {
	books := append(badBooks(), book(3, 2, 0), book(3, 2, 0, "yes", "no", "wait", "come", "go"), filled(1, 3, 2, 3), filled(10, 3, 4, 100))
	meanings, hoists := append(badMeanings(), impl.Meaning{0}, impl.Meaning{1, 0}), append(badHoists(), impl.Hoist{0}, impl.Hoist{0, -1})
	phrases := append(badPhrases(), "yes", "another one")
	other := filled(2, 2, 1, 3)
	for k, b := range books {
		for j, i := range bookExtremes {
			m, h, phrase := meanings[(j+k)%len(meanings)], hoists[(j+2*k)%len(hoists)], phrases[(j+3*k)%len(phrases)]
			counts := make([]int64, max(0, len(b.Phrases)-j%2))
			spoil(counts, i)
			first := bookCalls(b, other, m, h, i, phrase, counts)
			if second := bookCalls(copied(b), copied(other), slices.Clone(m), slices.Clone(h), i, phrase, slices.Clone(counts)); !reflect.DeepEqual(first, second) {
				t.Fatalf("results differ: %v, %v", first, second)
			}
			zeroIfError(t, first)
		}
	}
	empty, none := book(3, 2, 0), impl.Book{Kinds: 3, Length: 2, Phrases: []string{}}
	one, two := bookCalls(empty, none, impl.Meaning{0}, impl.Hoist{0}, 0, "yes", nil), bookCalls(none, empty, impl.Meaning{0}, impl.Hoist{0}, 0, "yes", []int64{})
	for n := range one {
		for at := range one[n] {
			if !equal(one[n][at], two[n][at]) {
				t.Errorf("call %d: nil and empty phrases differ: %v, %v", n, one[n], two[n])
			}
		}
	}
}

func TestPromise1SpellingAllArguments(t *testing.T) {
	texts := append(badWords(), "anna", "yes no", "abcdefgh", " ", "3 2 0\nyes\n", "3 2 0\n\n", strings.Repeat("a ", 100)+"a")
	meanings := append(badMeanings(), impl.Meaning{0}, impl.Meaning{25, impl.Break, 26})
	lists := [][]impl.Hoist{nil, {{0}}, {{0}, {26}}, {{0}, nil}, badHoists(), someHoists(100), repeated(impl.Hoist{0, -1}, 100), repeated(impl.Hoist{0, -1}, 101)}
	for k, text := range texts {
		for j, n := range bookExtremes {
			m, list := meanings[(j+k)%len(meanings)], lists[(j+2*k)%len(lists)]
			subs := bookExtremes[(j+3*k)%len(bookExtremes)]
			first, second := spellCalls(text, n, subs, m, list), spellCalls(strings.Clone(text), n, subs, slices.Clone(m), slices.Clone(list))
			if !reflect.DeepEqual(first, second) {
				t.Fatalf("results differ: %v, %v", first, second)
			}
			zeroIfError(t, first)
		}
	}
}

// TestPromise1BooksUnchanged gives the lists more capacity than length, for this must stay as it is, too.
func TestPromise1BooksUnchanged(t *testing.T) {
	seed := numbers(23)
	for k, b := range append(badBooks(), manyBooks()...) {
		whole := slices.Concat(b.Phrases, []string{"left", "as", "it", "is"})
		kept := slices.Clone(whole)
		part := b
		part.Phrases = whole[:len(b.Phrases)]
		uses := append(someUses(&seed, len(b.Phrases)), 4, 3, 2, 1)
		keptUses := slices.Clone(uses)
		m, h := impl.Meaning{0, 0, 9, 9, 9}, impl.Hoist{0, -1, 9, 9, 9}
		for _, i := range []int64{0, int64(len(b.Phrases)) / 2, int64(len(b.Phrases)) - 1} {
			bookCalls(part, part, m[:1+k%2], h[:1+k%2], i, "another one", uses[:len(b.Phrases)])
		}
		if !slices.Equal(whole, kept) || !slices.Equal(uses, keptUses) || !slices.Equal(m, impl.Meaning{0, 0, 9, 9, 9}) || !slices.Equal(h, impl.Hoist{0, -1, 9, 9, 9}) {
			t.Fatalf("%s: the arguments have changed", nameOf(b))
		}
	}
	list := append(badHoists(), someHoists(40)...)
	for i, h := range list {
		list[i] = append(slices.Clone(h), 33, 34)[:len(h)]
	}
	for i, h := range list {
		spellCalls("anna", 2, 2, impl.Meaning(h), list[i:])
		spellCalls("anna", 2, 2, impl.Meaning(h), []impl.Hoist{h, {0}})
		if behind := h[: len(h)+2 : len(h)+2]; behind[len(h)] != 33 || behind[len(h)+1] != 34 {
			t.Fatalf("%v has changed", behind)
		}
	}
	for i, h := range append(badHoists(), someHoists(40)...) {
		if !slices.Equal(h, list[i]) {
			t.Fatalf("%v has changed: %v", h, list[i])
		}
	}
}

func TestPromise1BooksNewResults(t *testing.T) {
	b := book(3, 2, 1, "yes", "no", "wait", "come")
	want := copied(b)
	for range 2 { // what is done with the first results must not be seen in the second ones
		m, code := impl.MeaningAt(b, 3)
		same(t, "meaning", results(m, code), impl.Meaning{0, 0}, impl.OK)
		spoil(m, 9)
		h, code := impl.HoistOf(b, 3)
		same(t, "hoist", results(h, code), impl.Hoist{0, -1}, impl.OK)
		spoil(h, 9)
		begun, code := impl.CompletionsOf(b, impl.Meaning{0})
		same(t, "completions", results(begun, code), []int64{0, 3}, impl.OK)
		spoil(begun, 9)
		short, code := impl.ShortestBook(b, []int64{1, 1, 1, 1})
		same(t, "shortest", results(short, code), want, impl.OK)
		spoil(short.Phrases, "spoiled")
		added, code := impl.AddPhrase(b, "go")
		same(t, "added", results(added, code), book(3, 2, 1, "yes", "no", "wait", "come", "go"), impl.OK)
		spoil(added.Phrases, "spoiled")
		for i := range int64(4) {
			dropped, code := impl.DropPhrase(b, i)
			same(t, "dropped", results(dropped, code), book(3, 2, 1, slices.Delete(slices.Clone(want.Phrases), int(i), int(i)+1)...), impl.OK)
			spoil(dropped.Phrases, "spoiled")
		}
		put, code := impl.ReplacePhrase(b, 1, "go")
		same(t, "replaced", results(put, code), book(3, 2, 1, "yes", "go", "wait", "come"), impl.OK)
		spoil(put.Phrases, "spoiled")
		moved, code := impl.MovedPhrases(b, book(3, 2, 1, "no", "yes"))
		same(t, "moved", results(moved, code), []int64{0, 1}, impl.OK)
		spoil(moved, 9)
		spelled, code := impl.SpellWord("anna", 2)
		same(t, "spelled", results(spelled, code), impl.Meaning{0, 13, impl.Break, 13, 0}, impl.OK)
		spoil(spelled, 9)
		list, code := impl.HoistsForText("aa aa b", 1)
		same(t, "hoists", results(list, code), []impl.Hoist{{0, -1}, {0, -1}, {1}}, impl.OK)
		spoil(list[0], 9)
		same(t, "the other hoists", results(list[1:]), []impl.Hoist{{0, -1}, {1}})
		spoil(list, nil)
		back, code := impl.ReadBook("3 2 1\nyes\nno\n")
		same(t, "read", results(back, code), book(3, 2, 1, "yes", "no"), impl.OK)
		spoil(back.Phrases, "spoiled")
		same(t, "the book", results(b), want)
	}
}

func TestPromise1BooksOfAMillion(t *testing.T) {
	for _, phrase := range []string{"", "yes", "\n"} {
		b := impl.Book{Kinds: 10, Length: 3, Subs: 4, Phrases: make([]string, 1000000)}
		spoil(b.Phrases, phrase)
		calls := bookCalls(b, b, make(impl.Meaning, 1000000), make(impl.Hoist, 1000000), 0, strings.Repeat("a", 1000000), make([]int64, 1000000))
		for n, call := range calls[1:15] {
			if codeOf(call) != impl.ErrInvalid {
				t.Errorf("call %d: code %d", n+1, codeOf(call))
			}
		}
		same(t, "a million", results(impl.ValidBook(b), impl.SameBook(b, copied(b)), impl.BookText(b)), false, true, "")
		same(t, "its room", results(impl.RoomOf(b)), 1110, impl.OK)
	}
	million := make([]int64, 1000000)
	same(t, "a million uses", results(impl.FlagsFor(book(3, 2, 0, "yes"), million)), 0, impl.ErrRange)
	same(t, "a million uses, invalid ones", results(impl.ShortestBook(book(0, 2, 0, "yes"), million)), impl.Book{}, impl.ErrInvalid)
	same(t, "a million hoists", results(impl.TextFromHoists(repeated(impl.Hoist{0}, 999999))), "", impl.ErrRange)
	same(t, "a long hoist", results(impl.TextFromHoists([]impl.Hoist{{0}, make(impl.Hoist, 999000)})), "", impl.ErrInvalid)
}
