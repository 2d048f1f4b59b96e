package tests

import (
	"fmt"
	"math/big"
	"slices"
	"testing"

	"loop.example/g01299/impl"
)

func TestPromise12ListExample(t *testing.T) {
	same(t, "apart", results(impl.LeastApart([]impl.Word{{0, 0}, {0, 1}, {2, 2}})), 1, impl.OK)
	same(t, "greedy", results(impl.GreedyWords(3, 3, 3, 60)), []impl.Word{{0, 0, 0}, {1, 1, 1}, {2, 2, 2}}, impl.OK)
	same(t, "bound", results(impl.SphereBound(3, 3, 3)), 3, impl.OK)
	same(t, "rank", results(impl.RankOfWord(5, impl.Word{1, 2})), 7, impl.OK)
}

func TestPromise12LeastApart(t *testing.T) {
	seed := numbers(97)
	amounts := map[int64]int{}
	for k := range 700 {
		words := drawnWords(&seed, []int{2, 3, 9, 37}[k%4], 1+k%8, []int{0, 1, 2, 3, 5, 60, 61}[k%7])
		name := fmt.Sprint("list ", k)
		if len(words) > 60 {
			same(t, name, results(impl.LeastApart(words)), 0, impl.ErrLimit)
			continue
		}
		_, _, least, code := toldPair(len(words), func(i, j int) int64 { return toldLetters(words[i], words[j]) })
		same(t, name, results(impl.LeastApart(words)), least, code)
		if code == impl.OK {
			amounts[least]++
		}
	}
	if len(amounts) != 9 {
		t.Errorf("how many letters are apart: %v", amounts)
	}
	same(t, "no words", results(impl.LeastApart(nil)), 0, impl.ErrNotFound)
	same(t, "one word", results(impl.LeastApart([]impl.Word{{0}})), 0, impl.ErrNotFound)
	same(t, "two equal words", results(impl.LeastApart([]impl.Word{{1, 2}, {3, 4}, {1, 2}})), 0, impl.OK)
	same(t, "the last two", results(impl.LeastApart([]impl.Word{{0, 0, 0}, {1, 1, 1}, {2, 2, 2}, {2, 3, 3}})), 2, impl.OK)
	same(t, "the first and the last one", results(impl.LeastApart([]impl.Word{{0, 0, 0}, {1, 1, 1}, {2, 2, 2}, {0, 3, 0}})), 1, impl.OK)
}

func TestPromise12DecodeWord(t *testing.T) {
	seed := numbers(101)
	codes := map[int64]int{}
	for k := range 500 {
		letters, length := []int{2, 3, 9, 37}[k%4], 1+k%8
		words := drawnWords(&seed, letters, length, []int{0, 1, 2, 3, 5, 60, 61}[k%7])
		w := drawnWord(&seed, letters, length)
		if len(words) > 0 && k%3 == 0 {
			w = slices.Clone(words[seed.below(len(words))])
			w[seed.below(length)] = uint8(seed.below(letters))
		}
		for _, wrong := range []int64{-256, -1, 0, 1, 2, 3, 4, 5, 6, 7, 8, 9, 10, 256} {
			var found []int
			for i, other := range words {
				if toldLetters(w, other) <= wrong {
					found = append(found, i)
				}
			}
			i, code := 0, int64(impl.OK)
			switch {
			case len(words) > 60:
				code = impl.ErrLimit
			case wrong < 0 || wrong > 8:
				code = impl.ErrRange
			case len(found) == 0:
				code = impl.ErrNotFound
			case len(found) > 1:
				code = impl.ErrProof
			default:
				i = found[0]
			}
			same(t, fmt.Sprint("list ", k, ", wrong ", wrong), results(impl.DecodeWord(words, w, wrong)), i, code)
			codes[code]++
		}
	}
	for _, code := range []int64{impl.OK, impl.ErrNotFound, impl.ErrProof} {
		if codes[code] < 200 {
			t.Errorf("how often there are codes: %v", codes)
		}
	}
	list := []impl.Word{{0, 0, 0}, {1, 1, 1}, {2, 2, 2}, {1, 1, 1}}
	same(t, "the first one", results(impl.DecodeWord(list, impl.Word{0, 0, 5}, 1)), 0, impl.OK)
	same(t, "the one in the middle, as it is", results(impl.DecodeWord(list, impl.Word{2, 2, 2}, 0)), 2, impl.OK)
	same(t, "two that are equal", results(impl.DecodeWord(list, impl.Word{1, 1, 1}, 0)), 0, impl.ErrProof)
	same(t, "several, of which one is nearer", results(impl.DecodeWord(list, impl.Word{2, 2, 0}, 2)), 0, impl.ErrProof)
	same(t, "none", results(impl.DecodeWord(list, impl.Word{0, 2, 5}, 1)), 0, impl.ErrNotFound)
	same(t, "all of one", results(impl.DecodeWord(list[:1], impl.Word{5, 5, 5}, 8)), 0, impl.OK)
}

// TestPromise12Decoded makes fewer letters wrong than half of the least distance.
func TestPromise12Decoded(t *testing.T) {
	seed := numbers(103)
	for _, size := range [][3]int64{{2, 3, 3}, {2, 7, 3}, {2, 8, 5}, {3, 4, 3}, {3, 5, 5}, {5, 4, 3}, {8, 4, 4}, {17, 3, 3}} {
		words, code := impl.GreedyWords(size[0], size[1], size[2], 60)
		same(t, "greedy", results(code), impl.OK)
		for i, w := range words {
			for range 20 {
				read := slices.Clone(w)
				for range (size[2] - 1) / 2 {
					read[seed.below(len(read))] = uint8(seed.below(int(size[0])))
				}
				same(t, fmt.Sprint(size, w, read), results(impl.DecodeWord(words, read, (size[2]-1)/2)), i, impl.OK)
			}
		}
	}
}

func TestPromise12ListErrors(t *testing.T) {
	for _, bad := range badLetters() {
		lists := [][]impl.Word{{bad}, {bad, {0, 0, 0}}, {{0, 0, 0}, bad}, {{0, 0, 0}, bad, {0, 0, 0}}, append(slices.Repeat([]impl.Word{{0, 0, 0}}, 60), bad), append(slices.Repeat([]impl.Word{{0, 0, 0}}, 100), bad)}
		for _, words := range lists {
			same(t, "an invalid word", results(impl.LeastApart(words)), 0, impl.ErrInvalid)
			for _, wrong := range []int64{-1, 0, 9} {
				same(t, "an invalid word", results(impl.DecodeWord(words, impl.Word{0, 0, 0}, wrong)), 0, impl.ErrInvalid)
			}
		}
		for _, count := range []int{0, 1, 60, 61} {
			for _, wrong := range []int64{-1, 0, 9} {
				words := slices.Repeat([]impl.Word{make(impl.Word, max(1, len(bad)))}, count)
				same(t, "an invalid word that is asked for", results(impl.DecodeWord(words, bad, wrong)), 0, impl.ErrInvalid)
			}
		}
	}
	for length := 1; length <= 8; length++ {
		w := make(impl.Word, length)
		for other := 1; other <= 8; other++ {
			v := make(impl.Word, other)
			for _, count := range []int{0, 1, 2, 59, 60, 61, 100} {
				words := slices.Repeat([]impl.Word{v}, count)
				for _, wrong := range []int64{-1, 0, 8, 9} {
					want := int64(impl.OK)
					switch {
					case count > 0 && length != other:
						want = impl.ErrInvalid
					case count > 60:
						want = impl.ErrLimit
					case wrong < 0 || wrong > 8:
						want = impl.ErrRange
					case count == 0:
						want = impl.ErrNotFound
					case count > 1:
						want = impl.ErrProof
					}
					same(t, fmt.Sprint(count, " words of the length ", other, ", one of ", length, ", wrong ", wrong), results(impl.DecodeWord(words, w, wrong)), 0, want)
				}
				want := int64(impl.OK)
				switch {
				case count == 0:
					want = impl.ErrNotFound
				case length != other:
					want = impl.ErrInvalid
				case count >= 60:
					want = impl.ErrLimit
				}
				same(t, "one more, at the end", results(impl.LeastApart(append(words, w))), 0, want)
				same(t, "one more, at the beginning", results(impl.LeastApart(slices.Concat([]impl.Word{w}, words))), 0, want)
			}
		}
	}
}

// toldWordCount is letters to the power length, however great that may be.
func toldWordCount(letters, length int64) *big.Int {
	return new(big.Int).Exp(big.NewInt(letters), big.NewInt(length), nil)
}

// toldSizes reports whether there are words of so many letters and a length, and a number of letters apart.
func toldSizes(letters, length, apart int64) bool {
	return letters >= 2 && letters <= 37 && length >= 1 && length <= 8 && apart >= 1 && apart <= length
}

func TestPromise12GreedyWords(t *testing.T) {
	fewer := 0
	for letters := int64(2); letters <= 37; letters++ {
		for length := int64(1); length <= 8; length++ {
			for apart := int64(1); apart <= length; apart++ {
				name := fmt.Sprint(letters, " letters, length ", length, ", apart ", apart)
				if toldWordCount(letters, length).Cmp(big.NewInt(5000)) > 0 {
					same(t, name, results(impl.GreedyWords(letters, length, apart, 0)), []impl.Word(nil), impl.ErrBudget)
					same(t, name, results(impl.GreedyWords(letters, length, apart, 60)), []impl.Word(nil), impl.ErrBudget)
					continue
				}
				var want []impl.Word
				for w := range everyWord(letters, length) {
					tooNear := func(other impl.Word) bool { return toldLetters(w, other) < apart }
					if len(want) < 60 && !slices.ContainsFunc(want, tooNear) {
						want = append(want, w)
					}
				}
				for _, most := range []int{0, 1, 2, 7, 59, 60} {
					same(t, fmt.Sprint(name, ", most ", most), results(impl.GreedyWords(letters, length, apart, int64(most))), want[:min(most, len(want))], impl.OK)
				}
				if bound, _ := impl.SphereBound(letters, length, apart); int64(len(want)) > bound {
					t.Errorf("%s: %d words, but the bound is %d", name, len(want), bound)
				}
				if len(want) < 60 {
					fewer++
				}
				if len(want) > 1 {
					least, code := impl.LeastApart(want)
					if code != impl.OK || least < apart {
						t.Errorf("%s: %d letters apart", name, least)
					}
				}
			}
		}
	}
	if fewer < 50 {
		t.Errorf("only in %d cases there are less than 60 words", fewer)
	}
	same(t, "just below 5000", results(codeOf(results(impl.GreedyWords(17, 3, 1, 60)))), impl.OK)
	same(t, "just above 5000", results(codeOf(results(impl.GreedyWords(18, 3, 1, 60)))), impl.ErrBudget)
	same(t, "the last word", results(impl.GreedyWords(2, 8, 8, 2)), []impl.Word{{0, 0, 0, 0, 0, 0, 0, 0}, {1, 1, 1, 1, 1, 1, 1, 1}}, impl.OK)
}

func TestPromise12GreedyErrors(t *testing.T) {
	for _, letters := range afarExtremes {
		for _, length := range afarExtremes {
			for _, apart := range append(afarExtremes, length, length+1) {
				for _, most := range []int64{-256, -1, 0, 1, 60, 61, 256, 1 << 32} {
					want := int64(impl.OK)
					if !toldSizes(letters, length, apart) || most < 0 || most > 60 {
						want = impl.ErrRange
					} else if toldWordCount(letters, length).Cmp(big.NewInt(5000)) > 0 {
						want = impl.ErrBudget
					}
					got, code := impl.GreedyWords(letters, length, apart, most)
					if code != want || want != impl.OK && len(got) > 0 {
						t.Fatalf("%d letters, length %d, apart %d, most %d: %v, code %d, want %d", letters, length, apart, most, got, code, want)
					}
				}
			}
		}
	}
}

func TestPromise12SphereBound(t *testing.T) {
	for _, letters := range append(afarExtremes, 10, 11, 12, 17, 18, 30) {
		for _, length := range afarExtremes {
			for _, apart := range append(afarExtremes, length, length+1) {
				name := fmt.Sprint(letters, " letters, length ", length, ", apart ", apart)
				if !toldSizes(letters, length, apart) {
					same(t, name, results(impl.SphereBound(letters, length, apart)), 0, impl.ErrRange)
					continue
				}
				around := new(big.Int)
				for wrong := int64(0); 2*wrong <= apart-1; wrong++ {
					ways := new(big.Int).Binomial(length, wrong)
					around.Add(around, ways.Mul(ways, toldWordCount(letters-1, wrong)))
				}
				want := new(big.Int).Div(toldWordCount(letters, length), around)
				same(t, name, results(impl.SphereBound(letters, length, apart)), want.Int64(), impl.OK)
			}
		}
	}
}

// TestPromise12Spheres counts the words around the first one.
func TestPromise12Spheres(t *testing.T) {
	for _, size := range [][2]int64{{2, 1}, {2, 5}, {2, 8}, {3, 4}, {3, 7}, {4, 5}, {7, 4}, {17, 3}, {37, 2}} {
		for apart := int64(1); apart <= size[1]; apart++ {
			all, around := int64(0), int64(0)
			for w := range everyWord(size[0], size[1]) {
				all++
				if toldLetters(w, make(impl.Word, size[1])) <= (apart-1)/2 {
					around++
				}
			}
			same(t, fmt.Sprint(size, apart), results(impl.SphereBound(size[0], size[1], apart)), all/around, impl.OK)
		}
	}
}
