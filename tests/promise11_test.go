package tests

import (
	"fmt"
	"slices"
	"testing"

	"loop.example/g01299/impl"
)

// halves is a set of three flags: white, red, and one that has white and red blocks.
func halves() []impl.Flag {
	return []impl.Flag{plain(0), plain(2), flagOfBlocks([6]uint8{0, 0, 2, 0, 0, 2})}
}

func TestPromise11Example(t *testing.T) {
	c := codeWith(halves(), impl.Word{0, 1}, impl.Word{0, 2}, impl.Word{1, 1})
	want := []impl.Sight{{}, {0, 0, 2, 0, 0, 2}}
	same(t, "sights", results(impl.SightsOf(c, 1)), want, impl.OK)
	same(t, "nearest", results(impl.NearestWords(c)), 0, 1, 4, impl.OK)
	same(t, "read", results(impl.ReadSights(c, want)), 1, 0, impl.OK)
	same(t, "candidates", results(impl.CandidatesFor(c, want, 4)), []int64{0, 1}, impl.OK)
	same(t, "confused", results(impl.ConfusedFlags(c.Set, 0, 2)), []int64{2}, impl.OK)
}

func TestPromise11Constants(t *testing.T) {
	same(t, "constants", results(int64(impl.MaxLength), int64(impl.MaxWords), int64(impl.MaxLetters), int64(impl.MaxTried)), 8, 60, 37, 5000)
}

func TestPromise11ValidCode(t *testing.T) {
	for size := range 45 {
		same(t, fmt.Sprint("set of ", size), results(impl.ValidCode(codeWith(someFlags(size)))), size >= 1 && size <= 40)
		for letter := range 256 {
			want := size >= 1 && size <= 40 && letter < size && letter <= 36
			name := fmt.Sprint("set of ", size, ", letter ", letter)
			same(t, name, results(impl.ValidCode(codeWith(someFlags(size), impl.Word{uint8(letter)}))), want)
			same(t, name+", last", results(impl.ValidCode(codeWith(someFlags(size), impl.Word{0, 0}, impl.Word{0, uint8(letter)}))), want)
		}
	}
	for count := range 64 {
		words := slices.Repeat([]impl.Word{{0, 1}}, count)
		same(t, fmt.Sprint("words: ", count), results(impl.ValidCode(codeWith(halves(), words...))), count <= 60)
	}
	for length := range 12 {
		words := []impl.Word{make(impl.Word, length), make(impl.Word, length)}
		same(t, fmt.Sprint("words of the length ", length), results(impl.ValidCode(codeWith(halves(), words...))), length >= 1 && length <= 8)
		for other := range 12 {
			words[1] = make(impl.Word, other)
			same(t, fmt.Sprint("words of the lengths ", length, other), results(impl.ValidCode(codeWith(halves(), words...))), length == other && length >= 1 && length <= 8)
		}
	}
	for k, c := range someCodes(140) {
		same(t, fmt.Sprint("code ", k), results(impl.ValidCode(c), toldValidCode(c)), true, true)
	}
	for k, c := range badCodes() {
		same(t, fmt.Sprint("invalid code ", k), results(impl.ValidCode(c), toldValidCode(c)), false, false)
	}
	same(t, "equal flags and words", results(impl.ValidCode(codeWith([]impl.Flag{plain(1), plain(1)}, impl.Word{0, 1}, impl.Word{0, 1}))), true)
}

func TestPromise11SameWords(t *testing.T) {
	lists := [][]impl.Word{
		nil, {nil}, {nil, nil}, {{0}}, {{1}}, {{0, 0}}, {{0}, {0}}, {{0}, nil}, {nil, {0}}, {{0}, {1}}, {{1}, {0}}, {{0, 1}}, {{1, 0}}, {{0}, {1}, {2}},
		{{255}}, {make(impl.Word, 8)}, {make(impl.Word, 9)}, {make(impl.Word, 300000)}, slices.Repeat([]impl.Word{{1}}, 60), slices.Repeat([]impl.Word{{1}}, 61), badLetters(),
	}
	for i, a := range lists {
		for j, b := range lists {
			same(t, fmt.Sprint("lists ", i, j), results(impl.SameWords(a, b)), i == j)
		}
		same(t, "a copy", results(impl.SameWords(a, copiedWords(a))), true)
	}
	same(t, "nil and empty lists", results(impl.SameWords(nil, []impl.Word{}), impl.SameWords([]impl.Word{}, nil)), true, true)
	same(t, "nil and empty words", results(impl.SameWords([]impl.Word{{1}, nil}, []impl.Word{{1}, {}})), true)
	last := slices.Repeat([]impl.Word{{1, 2, 3}}, 60)
	other := copiedWords(last)
	other[59][2] = 4
	same(t, "another last letter", results(impl.SameWords(last, other), impl.SameWords(other, last)), false, false)
}

func TestPromise11SightsOf(t *testing.T) {
	for k, c := range someCodes(140) {
		for _, i := range append(afarExtremes, int64(len(c.Words))-1, int64(len(c.Words))) {
			name := fmt.Sprint("code ", k, ", word ", i)
			if i < 0 || i >= int64(len(c.Words)) {
				same(t, name, results(impl.SightsOf(c, i)), []impl.Sight(nil), impl.ErrRange)
				continue
			}
			same(t, name, results(impl.SightsOf(c, i)), toldSights(c, c.Words[i]), impl.OK)
		}
	}
	for k, c := range badCodes() {
		for _, i := range []int64{-1, 0, 1} {
			same(t, fmt.Sprint("invalid code ", k), results(impl.SightsOf(c, i)), []impl.Sight(nil), impl.ErrInvalid)
		}
	}
}

func TestPromise11SightDistance(t *testing.T) {
	seed := numbers(41)
	for range 300 {
		length := seed.below(12)
		a, b, c := drawnSights(&seed, length), drawnSights(&seed, length), drawnSights(&seed, length)
		same(t, "distance", results(impl.SightDistance(a, b)), toldOff(a, b), impl.OK)
		same(t, "the other way round", results(impl.SightDistance(b, a)), toldOff(a, b), impl.OK)
		same(t, "of itself", results(impl.SightDistance(a, slices.Clone(a))), 0, impl.OK)
		around, code := impl.SightDistance(a, c)
		if code != impl.OK || toldOff(a, b)+toldOff(b, c) < around {
			t.Errorf("it is shorter by way of %v: %d", b, around)
		}
		for other := range 12 {
			if other != length {
				same(t, "lengths", results(impl.SightDistance(a, make([]impl.Sight, other))), 0, impl.ErrRange)
			}
		}
	}
	same(t, "no sights", results(impl.SightDistance(nil, []impl.Sight{})), 0, impl.OK)
	same(t, "no sights, and one", results(impl.SightDistance(nil, []impl.Sight{{}})), 0, impl.ErrRange)
	same(t, "all blocks", results(impl.SightDistance(make([]impl.Sight, 8), slices.Repeat([]impl.Sight{{5, 5, 5, 5, 5, 5}}, 8))), 48, impl.OK)
	for block := range 6 {
		for colour := range 256 {
			want, code := int64(1), int64(impl.OK)
			if colour > 5 {
				want, code = 0, impl.ErrInvalid
			}
			if colour == 3 {
				want = 0
			}
			plain, other := impl.Sight{3, 3, 3, 3, 3, 3}, impl.Sight{3, 3, 3, 3, 3, 3}
			other[block] = uint8(colour)
			same(t, "one block", results(impl.SightDistance([]impl.Sight{plain}, []impl.Sight{other})), want, code)
		}
	}
	for _, bad := range badSights() {
		good := make([]impl.Sight, len(bad))
		same(t, "invalid", results(impl.SightDistance(bad, good)), 0, impl.ErrInvalid)
		same(t, "invalid", results(impl.SightDistance(good, bad)), 0, impl.ErrInvalid)
		same(t, "equal, but invalid", results(impl.SightDistance(bad, bad)), 0, impl.ErrInvalid)
		same(t, "invalid, and of another length", results(impl.SightDistance(bad, nil)), 0, impl.ErrInvalid)
		same(t, "invalid, and of another length", results(impl.SightDistance(good[1:], bad)), 0, impl.ErrInvalid)
	}
}

func TestPromise11LettersApart(t *testing.T) {
	seed := numbers(43)
	for k := range 300 {
		length, letters := 1+k%8, []int{2, 3, 37}[k%3]
		a, b, c := drawnWord(&seed, letters, length), drawnWord(&seed, letters, length), drawnWord(&seed, letters, length)
		same(t, "distance", results(impl.LettersApart(a, b)), toldLetters(a, b), impl.OK)
		same(t, "the other way round", results(impl.LettersApart(b, a)), toldLetters(a, b), impl.OK)
		same(t, "of itself", results(impl.LettersApart(a, slices.Clone(a))), 0, impl.OK)
		around, code := impl.LettersApart(a, c)
		if code != impl.OK || toldLetters(a, b)+toldLetters(b, c) < around {
			t.Errorf("it is shorter by way of %v: %d", b, around)
		}
		for other := 1; other <= 8; other++ {
			if other != length {
				same(t, "lengths", results(impl.LettersApart(a, make(impl.Word, other))), 0, impl.ErrRange)
			}
		}
	}
	for letter := range 256 {
		want, code := int64(1), int64(impl.OK)
		if letter == 1 {
			want = 0
		}
		if letter > 36 {
			want, code = 0, impl.ErrInvalid
		}
		same(t, "one letter", results(impl.LettersApart(impl.Word{0, 1}, impl.Word{0, uint8(letter)})), want, code)
	}
	for _, bad := range badLetters() {
		for _, good := range []impl.Word{{0}, {0, 36}, {0, 36, 1, 2, 3, 4, 5, 6}} {
			same(t, "invalid", results(impl.LettersApart(bad, good)), 0, impl.ErrInvalid)
			same(t, "invalid", results(impl.LettersApart(good, bad)), 0, impl.ErrInvalid)
		}
		same(t, "equal, but invalid", results(impl.LettersApart(bad, bad)), 0, impl.ErrInvalid)
	}
}

func TestPromise11NearestWords(t *testing.T) {
	alike := 0
	for k, c := range someCodes(280) {
		i, j, least, code := toldPair(len(c.Words), func(i, j int) int64 {
			return toldOff(toldSights(c, c.Words[i]), toldSights(c, c.Words[j]))
		})
		same(t, fmt.Sprint("code ", k), results(impl.NearestWords(c)), i, j, least, code)
		if code == impl.OK && least == 0 {
			alike++
		}
	}
	if alike < 20 || alike > 150 {
		t.Errorf("in %d codes two words look alike", alike)
	}
	similar := plain(0)
	similar[7] = 5
	six := []impl.Flag{plain(0), plain(1), plain(2), flagOfBlocks([6]uint8{0, 0, 0, 0, 0, 1}), similar, plain(0)}
	tests := []struct {
		name        string
		words       []impl.Word
		i, j, least int64
	}{
		{"two", []impl.Word{{0}, {1}}, 0, 1, 6},
		{"several pairs", []impl.Word{{0}, {1}, {2}}, 0, 1, 6},
		{"several pairs, the first one counts", []impl.Word{{0}, {1}, {1}, {0}}, 0, 3, 0},
		{"several pairs, then the second one counts", []impl.Word{{1}, {0}, {0}, {1}, {1}}, 0, 3, 0},
		{"several pairs, the first one has none", []impl.Word{{2}, {0}, {1}, {1}, {0}}, 1, 4, 0},
		{"the last two", []impl.Word{{0, 0}, {1, 1}, {2, 2}, {2, 3}, {2, 0}}, 3, 4, 1},
		{"two that are equal", []impl.Word{{0, 3}, {1, 1}, {0, 3}}, 0, 2, 0},
		{"two that look alike", []impl.Word{{0}, {3}, {4}}, 0, 2, 0},
		{"two with equal flags", []impl.Word{{5, 1}, {0, 3}, {0, 1}}, 0, 2, 0},
		{"fewer letters, but more blocks", []impl.Word{{0, 0, 0}, {3, 3, 3}, {1, 0, 0}}, 0, 1, 3},
		{"eight letters", []impl.Word{make(impl.Word, 8), {1, 1, 1, 1, 1, 1, 1, 1}}, 0, 1, 48},
	}
	for _, test := range tests {
		same(t, test.name, results(impl.NearestWords(codeWith(six, test.words...))), test.i, test.j, test.least, impl.OK)
	}
	same(t, "no words", results(impl.NearestWords(codeWith(six))), 0, 0, 0, impl.ErrNotFound)
	same(t, "one word", results(impl.NearestWords(codeWith(six, impl.Word{0}))), 0, 0, 0, impl.ErrNotFound)
	same(t, "sixty equal words", results(impl.NearestWords(codeWith(six, slices.Repeat([]impl.Word{{0}}, 60)...))), 0, 1, 0, impl.OK)
	for k, c := range badCodes() {
		same(t, fmt.Sprint("invalid code ", k), results(impl.NearestWords(c)), 0, 0, 0, impl.ErrInvalid)
	}
}

// TestPromise11Read sees each word without a fault.
func TestPromise11Read(t *testing.T) {
	read, refused := 0, 0
	for k, c := range someCodes(280) {
		for i, w := range c.Words {
			seen, code := impl.SightsOf(c, int64(i))
			same(t, "seen", results(seen, code), toldSights(c, w), impl.OK)
			alike := 0
			for _, other := range c.Words {
				if slices.Equal(toldSights(c, other), seen) {
					alike++
				}
			}
			name := fmt.Sprint("code ", k, ", word ", i)
			if alike == 1 {
				same(t, name, results(impl.ReadSights(c, seen)), i, 0, impl.OK)
				same(t, name, results(impl.CandidatesFor(c, seen, 0)), []int64{int64(i)}, impl.OK)
				read++
			} else {
				same(t, name, results(impl.ReadSights(c, seen)), 0, 0, impl.ErrProof)
				refused++
			}
		}
	}
	if read < 500 || refused < 500 {
		t.Errorf("%d words are read, %d are not", read, refused)
	}
}

// TestPromise11ReadFew reads each word when fewer blocks have been seen wrong than half of the least distance.
func TestPromise11ReadFew(t *testing.T) {
	seed := numbers(47)
	tried := 0
	for k, c := range someCodes(280) {
		_, _, least, code := impl.NearestWords(c)
		if code != impl.OK || least < 3 {
			continue
		}
		for i, w := range c.Words {
			seen := toldSights(c, w)
			wrong := int64(1 + seed.below(int(least-1)/2))
			for block := range wrong {
				at := (7*int(block) + k) % (6 * len(seen))
				seen[at/6][at%6] = (seen[at/6][at%6] + 1) % 6
			}
			off := toldOff(seen, toldSights(c, w))
			same(t, fmt.Sprint("code ", k, ", word ", i), results(impl.ReadSights(c, seen)), i, off, impl.OK)
			tried++
		}
	}
	if tried < 100 {
		t.Errorf("only %d words are far enough from others", tried)
	}
}

func TestPromise11ReadSights(t *testing.T) {
	seed := numbers(53)
	read, refused := 0, 0
	for k, c := range someCodes(280) {
		for range 8 {
			length := 1 + k%8
			seen := drawnSights(&seed, length)
			if len(c.Words) > 0 && seed.below(2) == 0 {
				seen = toldSights(c, c.Words[seed.below(len(c.Words))])
				seen[seed.below(length)][seed.below(6)] = uint8(seed.below(6))
			}
			if len(c.Words) == 0 {
				same(t, "no words", results(impl.ReadSights(c, seen)), 0, 0, impl.ErrNotFound)
				continue
			}
			i, off, code := toldRead(c, seen)
			same(t, fmt.Sprint("code ", k), results(impl.ReadSights(c, seen)), i, off, code)
			if code == impl.OK {
				read++
			} else {
				refused++
			}
		}
	}
	if read < 500 || refused < 200 {
		t.Errorf("%d are read, %d are not", read, refused)
	}
	c := codeWith(halves(), impl.Word{0, 1}, impl.Word{1, 0}, impl.Word{2, 2})
	tests := []struct {
		name         string
		seen         []impl.Sight
		i, off, code int64
	}{
		{"as near to all", []impl.Sight{{5, 5, 5, 5, 5, 5}, {5, 5, 5, 5, 5, 5}}, 0, 0, impl.ErrProof},
		{"as near to the first two", []impl.Sight{{2, 0, 5, 5, 5, 5}, {2, 0, 5, 5, 5, 5}}, 0, 0, impl.ErrProof},
		{"as near to the last two", []impl.Sight{{5, 5, 2, 5, 5, 5}, {5, 5, 5, 5, 5, 5}}, 0, 0, impl.ErrProof},
		{"two are as near, but a third one is nearer", []impl.Sight{{0, 0, 2, 0, 0, 2}, {2, 0, 2, 0, 0, 2}}, 2, 1, impl.OK},
		{"two are as near, and the first one is farther", []impl.Sight{{5, 5, 5, 5, 5, 5}, {5, 5, 5, 5, 0, 5}}, 0, 0, impl.ErrProof},
		{"far from all, but nearest to one", []impl.Sight{{0, 5, 5, 5, 5, 5}, {2, 5, 5, 5, 5, 5}}, 0, 10, impl.OK},
		{"the last one", []impl.Sight{{0, 0, 2, 0, 0, 2}, {0, 0, 2, 0, 0, 2}}, 2, 0, impl.OK},
	}
	for _, test := range tests {
		same(t, test.name, results(impl.ReadSights(c, test.seen)), test.i, test.off, test.code)
	}
	same(t, "one word, all wrong", results(impl.ReadSights(codeWith(halves(), make(impl.Word, 8)), slices.Repeat([]impl.Sight{{1, 1, 1, 1, 1, 1}}, 8))), 0, 48, impl.OK)
	same(t, "two equal words", results(impl.ReadSights(codeWith(halves(), impl.Word{1}, impl.Word{0}, impl.Word{0}), []impl.Sight{{}})), 0, 0, impl.ErrProof)
	same(t, "two equal words, but a third one is nearer", results(impl.ReadSights(codeWith(halves(), impl.Word{0}, impl.Word{0}, impl.Word{1}), []impl.Sight{{2, 2, 2, 2, 2, 2}})), 2, 0, impl.OK)
}

func TestPromise11ReadErrors(t *testing.T) {
	words := codeWith(halves(), impl.Word{0, 1}, impl.Word{0, 1})
	none := codeWith(halves())
	for length := range 12 {
		seen, bad := make([]impl.Sight, length), make([]impl.Sight, length+1)
		bad[length][5] = 6
		want := int64(impl.ErrRange)
		if length == 2 {
			want = impl.ErrProof
		}
		name := fmt.Sprint("sights: ", length)
		same(t, name, results(impl.ReadSights(words, seen)), 0, 0, want)
		same(t, name+", no words", results(impl.ReadSights(none, seen)), 0, 0, impl.ErrNotFound)
		same(t, name+", and an invalid one", results(impl.ReadSights(words, bad)), 0, 0, impl.ErrInvalid)
		same(t, name+", and an invalid one, no words", results(impl.ReadSights(none, bad)), 0, 0, impl.ErrInvalid)
		for k, c := range badCodes() {
			same(t, fmt.Sprint(name, ", invalid code ", k), results(impl.ReadSights(c, seen)), 0, 0, impl.ErrInvalid)
		}
	}
	for _, bad := range badSights() {
		one := codeWith(halves(), make(impl.Word, len(bad)))
		same(t, "invalid", results(impl.ReadSights(one, bad)), 0, 0, impl.ErrInvalid)
		same(t, "invalid", results(impl.CandidatesFor(one, bad, 48)), []int64(nil), impl.ErrInvalid)
	}
}

func TestPromise11CandidatesFor(t *testing.T) {
	seed := numbers(59)
	for k, c := range someCodes(140) {
		length := 1 + k%8
		seen := drawnSights(&seed, length)
		if len(c.Words) > 0 && k%3 > 0 {
			seen = toldSights(c, c.Words[seed.below(len(c.Words))])
			seen[seed.below(length)][seed.below(6)] = uint8(seed.below(6))
		}
		for wrong := int64(-3); wrong <= 51; wrong++ {
			name := fmt.Sprint("code ", k, ", wrong ", wrong)
			if wrong < 0 || wrong > 48 {
				same(t, name, results(impl.CandidatesFor(c, seen, wrong)), []int64(nil), impl.ErrRange)
				continue
			}
			var want []int64
			for i, w := range c.Words {
				if toldOff(toldSights(c, w), seen) <= wrong {
					want = append(want, int64(i))
				}
			}
			same(t, name, results(impl.CandidatesFor(c, seen, wrong)), want, impl.OK)
		}
	}
	eight := codeWith(halves(), make(impl.Word, 8))
	far := slices.Repeat([]impl.Sight{{1, 1, 1, 1, 1, 1}}, 8)
	same(t, "all blocks are wrong", results(impl.CandidatesFor(eight, far, 48)), []int64{0}, impl.OK)
	same(t, "one block too many is wrong", results(impl.CandidatesFor(eight, far, 47)), []int64(nil), impl.OK)
	same(t, "equal words", results(impl.CandidatesFor(codeWith(halves(), impl.Word{0}, impl.Word{1}, impl.Word{0}), []impl.Sight{{}}, 0)), []int64{0, 2}, impl.OK)
}

func TestPromise11CandidateErrors(t *testing.T) {
	words, none := codeWith(halves(), impl.Word{0, 1}), codeWith(halves())
	for _, wrong := range afarExtremes {
		for length := range 12 {
			seen, bad := make([]impl.Sight, length), make([]impl.Sight, length+1)
			bad[0][0] = 6
			name := fmt.Sprint("sights: ", length, ", wrong ", wrong)
			of, ofNone := int64(impl.OK), int64(impl.OK)
			if wrong < 0 || wrong > 48 {
				of, ofNone = impl.ErrRange, impl.ErrRange
			}
			if length != 2 {
				of = impl.ErrRange
			}
			same(t, name, results(codeOf(results(impl.CandidatesFor(words, seen, wrong)))), of)
			same(t, name+", no words", results(impl.CandidatesFor(none, seen, wrong)), []int64(nil), ofNone)
			same(t, name+", and an invalid one", results(impl.CandidatesFor(words, bad, wrong)), []int64(nil), impl.ErrInvalid)
			same(t, name+", and an invalid one, no words", results(impl.CandidatesFor(none, bad, wrong)), []int64(nil), impl.ErrInvalid)
		}
		for k, c := range badCodes() {
			same(t, fmt.Sprint("invalid code ", k), results(impl.CandidatesFor(c, []impl.Sight{{}, {}}, wrong)), []int64(nil), impl.ErrInvalid)
		}
	}
}

func TestPromise11ConfusedFlags(t *testing.T) {
	seed := numbers(61)
	for size := range 42 {
		set := blockFlags(&seed, size, 2+size%3)
		for _, i := range append(afarExtremes, int64(size)-1, int64(size)) {
			for _, most := range []int64{-256, -1, 0, 1, 2, 3, 4, 5, 6, 7, 256} {
				name := fmt.Sprint("set of ", size, ", flag ", i, ", most ", most)
				if size > 40 {
					same(t, name, results(impl.ConfusedFlags(set, i, most)), []int64(nil), impl.ErrLimit)
					continue
				}
				if i < 0 || i >= int64(size) || most < 0 || most > 6 {
					same(t, name, results(impl.ConfusedFlags(set, i, most)), []int64(nil), impl.ErrRange)
					continue
				}
				var want []int64
				for j, f := range set {
					if int64(j) != i && toldApart(f, set[i]) <= most {
						want = append(want, int64(j))
					}
				}
				same(t, name, results(impl.ConfusedFlags(set, i, most)), want, impl.OK)
			}
		}
	}
	equal := []impl.Flag{plain(1), plain(1), plain(2), plain(1)}
	same(t, "equal flags", results(impl.ConfusedFlags(equal, 1, 0)), []int64{0, 3}, impl.OK)
	same(t, "one that is alone", results(impl.ConfusedFlags(equal, 2, 5)), []int64(nil), impl.OK)
	same(t, "all flags", results(impl.ConfusedFlags(equal, 2, 6)), []int64{0, 1, 3}, impl.OK)
	similar := plain(1)
	similar[23] = 0
	same(t, "one that looks alike", results(impl.ConfusedFlags([]impl.Flag{similar, plain(2), plain(1)}, 0, 0)), []int64{2}, impl.OK)
	same(t, "the only flag", results(impl.ConfusedFlags([]impl.Flag{plain(1)}, 0, 6)), []int64(nil), impl.OK)
	for _, bad := range badFlags() {
		for _, size := range []int{0, 1, 39, 40, 1000} {
			first, last := slices.Concat([]impl.Flag{bad}, someFlags(size)), append(someFlags(size), bad)
			for _, set := range [][]impl.Flag{first, last} {
				same(t, "an invalid flag", results(impl.ConfusedFlags(set, 0, 6)), []int64(nil), impl.ErrInvalid)
				same(t, "an invalid flag, and a wrong number", results(impl.ConfusedFlags(set, -1, 7)), []int64(nil), impl.ErrInvalid)
			}
		}
	}
}
