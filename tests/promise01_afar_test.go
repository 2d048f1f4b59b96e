package tests

import (
	"reflect"
	"slices"
	"strings"
	"testing"

	"loop.example/g01299/impl"
)

// codeCalls returns, for some arguments, the results of all functions of chapter 5 that take codes, sights or sets.
func codeCalls(c impl.Code, seen, other []impl.Sight, n, most int64) [][]any {
	return [][]any{
		results(impl.SightsOf(c, n)),
		results(impl.NearestWords(c)),
		results(impl.ReadSights(c, seen)),
		results(impl.CandidatesFor(c, seen, n)),
		results(impl.SightDistance(seen, other)),
		results(impl.ConfusedFlags(c.Set, n, most)),
		results(impl.ValidCode(c), int64(impl.OK)),
	}
}

// wordCalls returns, for some arguments, the results of all functions of chapter 5 that take words, or make them.
func wordCalls(words []impl.Word, w, other impl.Word, letters, length, n, most int64, text string) [][]any {
	return [][]any{
		results(impl.LeastApart(words)),
		results(impl.DecodeWord(words, w, n)),
		results(impl.LettersApart(w, other)),
		results(impl.SyndromesOf(letters, w)),
		results(impl.WithChecks(letters, w)),
		results(impl.IsChecked(letters, w)),
		results(impl.RepairWord(letters, w)),
		results(impl.RankOfWord(letters, w)),
		results(impl.WordAt(letters, length, n)),
		results(impl.GreedyWords(letters, length, n, most)),
		results(impl.SphereBound(letters, length, n)),
		results(impl.ReadWord(text)),
		results(impl.SameWords(words, []impl.Word{w, other}), impl.WordText(w), int64(impl.OK)),
	}
}

// copiedWords returns a list with copies of its words, which have no capacity left.
func copiedWords(list []impl.Word) []impl.Word {
	copies := make([]impl.Word, len(list))
	for i := range list {
		copies[i] = slices.Clip(slices.Clone(list[i]))
	}
	return copies
}

func TestPromise1CodesAllArguments(t *testing.T) {
	seed := numbers(67)
	codes := append(someCodes(70), badCodes()...)
	sights := append(badSights(), nil, make([]impl.Sight, 9), make([]impl.Sight, 1000))
	for k, c := range codes {
		for j, n := range afarExtremes {
			seen, other := drawnSights(&seed, 1+k%8), sights[(j+k)%len(sights)]
			if j%4 == 0 {
				seen, other = other, seen
			}
			most := afarExtremes[(j+3*k)%len(afarExtremes)]
			first := codeCalls(c, seen, other, n, most)
			second := codeCalls(codeWith(slices.Clone(c.Set), copiedWords(c.Words)...), slices.Clone(seen), slices.Clone(other), n, most)
			if !reflect.DeepEqual(first, second) {
				t.Fatalf("results differ: %v, %v", first, second)
			}
			zeroIfError(t, first)
		}
	}
	one, two := impl.Code{Set: halves()}, impl.Code{Set: halves(), Words: []impl.Word{}}
	if !reflect.DeepEqual(codeCalls(one, nil, nil, 0, 0), codeCalls(two, []impl.Sight{}, []impl.Sight{}, 0, 0)) {
		t.Error("nil and empty lists differ")
	}
	if !reflect.DeepEqual(codeCalls(impl.Code{}, nil, nil, 0, 0), codeCalls(impl.Code{Set: []impl.Flag{}}, nil, nil, 0, 0)) {
		t.Error("nil and empty sets differ")
	}
}

func TestPromise1WordsAllArguments(t *testing.T) {
	seed := numbers(71)
	texts := []string{"", "0", "36", "37", "256", "1 2 3", "1  2", "01", "x", "0 1 2 3 4 5 6 7", "0 1 2 3 4 5 6 7 8"}
	for k := range 250 {
		words := drawnWords(&seed, 2+k%36, 1+k%8, []int{0, 1, 2, 9, 60, 61}[k%6])
		w := drawnWord(&seed, 2+k%7, 1+k%8)
		if k%5 == 0 {
			w = badLetters()[k/5%len(badLetters())]
		}
		if k%7 == 0 && len(words) > 0 {
			words[len(words)/2] = badLetters()[k/7%len(badLetters())]
		}
		other := drawnWord(&seed, 37, 1+k%9)
		for j, n := range afarExtremes {
			letters, length := afarExtremes[(j+k)%len(afarExtremes)], afarExtremes[(j+2*k)%len(afarExtremes)]
			if k%2 == 0 {
				letters, length = []int64{2, 3, 4, 5, 7, 11, 37, 38}[j%8], int64(1+k/2%9)
			}
			most, text := afarExtremes[(3*j+k)%len(afarExtremes)], texts[(j+k)%len(texts)]
			first := wordCalls(words, w, other, letters, length, n, most, text)
			second := wordCalls(copiedWords(words), slices.Clip(slices.Clone(w)), slices.Clone(other), letters, length, n, most, strings.Clone(text))
			if !reflect.DeepEqual(first, second) {
				t.Fatalf("results differ: %v, %v", first, second)
			}
			zeroIfError(t, first)
		}
	}
	for _, letters := range []int64{1, 2, 5, 37} {
		one, two := wordCalls(nil, nil, nil, letters, 1, 1, 1, ""), wordCalls([]impl.Word{}, impl.Word{}, impl.Word{}, letters, 1, 1, 1, "")
		if !reflect.DeepEqual(one, two) {
			t.Errorf("nil and empty words differ: %v, %v", one, two)
		}
	}
}

// TestPromise1AfarUnchanged gives the lists more capacity than length, for this must stay as it is, too.
func TestPromise1AfarUnchanged(t *testing.T) {
	seed := numbers(73)
	for k, c := range append(someCodes(140), badCodes()...) {
		var words []impl.Word
		for _, w := range append(copiedWords(c.Words), impl.Word{30}, impl.Word{31}) {
			words = append(words, slices.Concat(w, impl.Word{33, 34, 35})[:len(w)])
		}
		set, seen := append(slices.Clone(c.Set), plain(4), plain(5)), append(drawnSights(&seed, 1+k%8), impl.Sight{4}, impl.Sight{5})
		keptSet, keptSeen := slices.Clone(set), slices.Clone(seen)
		count := len(c.Words)
		part := codeWith(set[:len(c.Set)], words[:count]...)
		for _, n := range []int64{-1, 0, 1, 5, 6, 48, 60} {
			codeCalls(part, seen[:1+k%8], seen[1:2+k%8], n, 6)
			for _, letters := range []int64{2, 3, 5, 7, 11, 37} {
				wordCalls(words[:count], words[0], words[max(count-1, 0)], letters, 3, n, 60, "1 2")
			}
		}
		if !slices.Equal(set, keptSet) || !slices.Equal(seen, keptSeen) || len(words) != count+2 {
			t.Fatalf("code %d: a set, sights or a list have changed", k)
		}
		for i, w := range append(copiedWords(c.Words), impl.Word{30}, impl.Word{31}) {
			if want := slices.Concat(w, impl.Word{33, 34, 35}); len(words[i]) != len(w) || !slices.Equal(words[i][:len(want)], want) {
				t.Fatalf("%v has changed: %v", want, words[i][:len(want)])
			}
		}
	}
}

func TestPromise1AfarNewResults(t *testing.T) {
	c := codeWith(halves(), impl.Word{0, 1}, impl.Word{0, 2}, impl.Word{1, 1})
	w, checked := impl.Word{1, 2}, impl.Word{1, 2, 3, 4}
	for range 2 { // what is done with the first results must not be seen in the second ones
		seen, code := impl.SightsOf(c, 1)
		same(t, "sights", results(seen, code), []impl.Sight{{}, {0, 0, 2, 0, 0, 2}}, impl.OK)
		near, code := impl.CandidatesFor(c, seen, 4)
		same(t, "candidates", results(near, code), []int64{0, 1}, impl.OK)
		spoil(seen, impl.Sight{5, 5, 5, 5, 5, 5})
		spoil(near, 9)
		confused, code := impl.ConfusedFlags(c.Set, 1, 6)
		same(t, "confused", results(confused, code), []int64{0, 2}, impl.OK)
		spoil(confused, 9)
		longer, code := impl.WithChecks(5, w[:1])
		same(t, "with checks", results(longer, code), impl.Word{1, 3, 1}, impl.OK)
		spoil(longer, 9)
		right, at, code := impl.RepairWord(5, checked)
		same(t, "without a wrong letter", results(right, at, code), impl.Word{1, 2, 3, 4}, -1, impl.OK)
		spoil(right, 9)
		right, at, code = impl.RepairWord(5, impl.Word{1, 0, 3, 4})
		same(t, "with a wrong letter", results(right, at, code), impl.Word{1, 2, 3, 4}, 1, impl.OK)
		spoil(right, 9)
		ranked, code := impl.WordAt(5, 2, 7)
		same(t, "ranked", results(ranked, code), impl.Word{1, 2}, impl.OK)
		spoil(ranked, 9)
		back, code := impl.ReadWord("1 2")
		same(t, "read", results(back, code), impl.Word{1, 2}, impl.OK)
		spoil(back, 9)
		greedy, code := impl.GreedyWords(3, 3, 3, 60)
		want := []impl.Word{{0, 0, 0}, {1, 1, 1}, {2, 2, 2}}
		same(t, "greedy", results(greedy, code), want, impl.OK)
		for i := range greedy {
			spoil(greedy[i], 9)
			same(t, "the others", results(greedy[i+1:]), want[i+1:])
		}
		spoil(greedy, nil)
		same(t, "the arguments", results(c, w, checked), codeWith(halves(), impl.Word{0, 1}, impl.Word{0, 2}, impl.Word{1, 1}), impl.Word{1, 2}, impl.Word{1, 2, 3, 4})
	}
}

func TestPromise1AfarOfAMillion(t *testing.T) {
	long := make(impl.Word, 1000000)
	none, single := make([]impl.Word, 1000000), slices.Repeat([]impl.Word{{0}}, 999999)
	flags := slices.Repeat([]impl.Flag{plain(5)}, 41666)
	sights := make([]impl.Sight, 166666)
	for _, words := range [][]impl.Word{none, single, {{0}, long}, {long}} {
		calls := codeCalls(codeWith(halves(), words...), sights, sights, 0, 0)
		for n, call := range calls[:4] {
			if codeOf(call) != impl.ErrInvalid {
				t.Errorf("call %d: code %d", n, codeOf(call))
			}
		}
		same(t, "a million letters or words", results(impl.SameWords(words, copiedWords(words)), impl.ValidCode(codeWith(halves(), words...))), true, false)
	}
	same(t, "too many words", results(impl.LeastApart(single)), 0, impl.ErrLimit)
	same(t, "too many words", results(impl.DecodeWord(single, impl.Word{0}, 0)), 0, impl.ErrLimit)
	same(t, "too many words, the last one invalid", results(impl.LeastApart(append(single, nil))), 0, impl.ErrInvalid)
	same(t, "too many empty words", results(impl.LeastApart(none)), 0, impl.ErrInvalid)
	same(t, "too many flags", results(impl.ValidCode(codeWith(flags))), false)
	same(t, "too many flags", results(impl.ConfusedFlags(flags, 0, 0)), []int64(nil), impl.ErrLimit)
	same(t, "many sights", results(impl.SightDistance(sights, slices.Repeat([]impl.Sight{{1, 1, 1, 1, 1, 1}}, 166666))), 6*166666, impl.OK)
	same(t, "too many sights", results(impl.ReadSights(codeWith(halves(), impl.Word{0}), sights)), 0, 0, impl.ErrRange)
	same(t, "too many sights", results(impl.CandidatesFor(codeWith(halves(), impl.Word{0}), sights, 0)), []int64(nil), impl.ErrRange)
	for n, call := range wordCalls(nil, long, long, 37, 8, 0, 0, strings.Repeat("1 ", 500000))[1:8] {
		if codeOf(call) != impl.ErrInvalid {
			t.Errorf("call %d: code %d", n+1, codeOf(call))
		}
	}
	same(t, "a long word", results(impl.WordText(long)), "")
	same(t, "a long text", results(impl.ReadWord(strings.Repeat("1 ", 500000))), impl.Word(nil), impl.ErrSyntax)
}
