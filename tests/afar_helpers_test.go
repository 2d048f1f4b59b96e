package tests

import (
	"iter"
	"math"
	"slices"

	"loop.example/g01299/impl"
)

// afarExtremes are numbers at and around all bounds of chapter 5, numbers that are other ones in fewer bits, and the ends of int64.
var afarExtremes = []int64{math.MinInt64, -256, -255, -2, -1, 0, 1, 2, 3, 4, 5, 6, 7, 8, 9, 36, 37, 38, 39, 40, 41, 47, 48, 49, 59, 60, 61, 255, 256, 257, 1 << 32, 1<<32 + 5, math.MaxInt64}

// primes are the numbers of letters with which words have checks.
var primes = []int64{3, 5, 7, 11, 13, 17, 19, 23, 29, 31, 37}

// codeWith returns a code with the words that follow.
func codeWith(set []impl.Flag, words ...impl.Word) impl.Code {
	return impl.Code{Set: set, Words: words}
}

// toldWordOf reports whether a word is valid, and has letters that are less than so many, as the document tells it.
func toldWordOf(w impl.Word, letters int64) bool {
	for _, letter := range w {
		if letter >= 37 || int64(letter) >= letters {
			return false
		}
	}
	return len(w) == 1 || len(w) >= 2 && len(w) <= 8
}

// toldWords reports whether words are valid, and each two of one length.
func toldWords(words []impl.Word) bool {
	for i, w := range words {
		if !toldWordOf(w, 37) || i > 0 && len(words[i-1]) != len(w) {
			return false
		}
	}
	return true
}

// toldValidCode reports whether a code is valid as the document tells it.
func toldValidCode(c impl.Code) bool {
	for _, f := range c.Set {
		if slices.Max(f[:]) > 5 {
			return false
		}
	}
	for _, w := range c.Words {
		if !toldWordOf(w, int64(len(c.Set))) {
			return false
		}
	}
	return len(c.Set) >= 1 && len(c.Set) <= 40 && len(c.Words) <= 60 && toldWords(c.Words)
}

// toldSights blurs the flags of a word one by one.
func toldSights(c impl.Code, w impl.Word) []impl.Sight {
	var seen []impl.Sight
	for _, letter := range w {
		seen = append(seen, toldBlur(c.Set[letter]))
	}
	return seen
}

// toldOff counts the blocks in which two lists of sights of one length differ.
func toldOff(a, b []impl.Sight) int64 {
	count := int64(0)
	for block := range 6 * len(a) {
		if a[block/6][block%6] != b[block/6][block%6] {
			count++
		}
	}
	return count
}

// toldLetters counts the letters in which two words of one length differ.
func toldLetters(a, b impl.Word) int64 {
	count := int64(0)
	for i, letter := range a {
		if b[i] != letter {
			count++
		}
	}
	return count
}

// toldPair goes through all pairs, and returns the first one with the least distance, and this.
func toldPair(count int, apart func(i, j int) int64) (int64, int64, int64, int64) {
	var pairs [][3]int64
	for i := range count {
		for j := i + 1; j < count; j++ {
			pairs = append(pairs, [3]int64{apart(i, j), int64(i), int64(j)})
		}
	}
	if len(pairs) == 0 {
		return 0, 0, 0, impl.ErrNotFound
	}
	first := slices.MinFunc(pairs, func(p, q [3]int64) int { return slices.Compare(p[:], q[:]) })
	return first[1], first[2], first[0], impl.OK
}

// toldRead returns the word that is nearest to what has been seen, of all distances.
func toldRead(c impl.Code, seen []impl.Sight) (int64, int64, int64) {
	off := make([]int64, len(c.Words))
	for i, w := range c.Words {
		off[i] = toldOff(toldSights(c, w), seen)
	}
	least := slices.Min(off)
	at := slices.Index(off, least)
	if slices.Contains(off[at+1:], least) {
		return 0, 0, impl.ErrProof
	}
	return int64(at), least, impl.OK
}

// toldChecked reports whether both sums of a word are multiples of a number.
func toldChecked(letters int64, w impl.Word) bool {
	sum, weighted := int64(0), int64(0)
	for i, letter := range w {
		sum += int64(letter)
		weighted += int64(i+1) * int64(letter)
	}
	return sum%letters == 0 && weighted%letters == 0
}

// oneOff goes through all words that differ from a word in one letter, with the index of this.
func oneOff(letters int64, w impl.Word) iter.Seq2[int64, impl.Word] {
	return func(yield func(int64, impl.Word) bool) {
		for i := range w {
			for letter := range letters {
				other := slices.Clone(w)
				other[i] = uint8(letter)
				if other[i] != w[i] && !yield(int64(i), other) {
					return
				}
			}
		}
	}
}

// toldRepair tries all words that differ from a word in at most one letter.
func toldRepair(letters int64, w impl.Word) (impl.Word, int64, int64) {
	if toldChecked(letters, w) {
		return w, -1, impl.OK
	}
	for i, other := range oneOff(letters, w) {
		if toldChecked(letters, other) {
			return other, i, impl.OK
		}
	}
	return nil, 0, impl.ErrProof
}

// everyWord goes through all words of so many letters and a length, in the order of lists.
func everyWord(letters, length int64) iter.Seq[impl.Word] {
	var from []int8
	for letter := range letters {
		from = append(from, int8(letter))
	}
	return func(yield func(impl.Word) bool) {
		for list := range everyList(from, int(length)) {
			w := make(impl.Word, length)
			for i, letter := range list {
				w[i] = uint8(letter)
			}
			if !yield(w) {
				return
			}
		}
	}
}

// drawnWord returns a word of so many letters and a length.
func drawnWord(seed *numbers, letters, length int) impl.Word {
	w := make(impl.Word, length)
	for i := range w {
		w[i] = uint8(seed.below(letters))
	}
	return w
}

// drawnWords returns so many words of one length, some of which are equal if there are few letters.
func drawnWords(seed *numbers, letters, length, count int) []impl.Word {
	words := make([]impl.Word, count)
	for i := range words {
		words[i] = drawnWord(seed, letters, length)
	}
	return words
}

// drawnSights returns so many sights with few colours.
func drawnSights(seed *numbers, count int) []impl.Sight {
	seen := make([]impl.Sight, count)
	for i := range 6 * count {
		seen[i/6][i%6] = uint8(seed.below(2 + i%5))
	}
	return seen
}

// someCodes returns valid codes of all lengths, with few and many words and flags, some of which look alike.
func someCodes(count int) []impl.Code {
	seed := numbers(37)
	list := make([]impl.Code, count)
	for k := range list {
		set := blockFlags(&seed, 1+seed.below(9), 2+k%3)
		if k%5 == 0 {
			set = someFlags(36 + k%25/5)
		}
		for i := range set {
			if seed.below(3) == 0 { // one cell of four does not change what is seen of a block
				set[i][6*seed.below(4)+seed.below(6)] = 5
			}
		}
		words := drawnWords(&seed, min(len(set), 37), 1+k%8, []int{0, 1, 2, 3, 4, 9, 60}[k%7])
		list[k] = codeWith(set, words...)
	}
	return list
}

// badLetters returns words that are not valid for one reason each.
func badLetters() []impl.Word {
	list := []impl.Word{nil, {}, make(impl.Word, 9), make(impl.Word, 10), make(impl.Word, 256), make(impl.Word, 257), make(impl.Word, 264)}
	for _, letter := range []uint8{37, 38, 39, 40, 64, 127, 128, 255} {
		list = append(list, impl.Word{letter}, impl.Word{letter, 0, 36}, impl.Word{0, letter, 36}, impl.Word{0, 36, 1, 2, 3, 4, 5, letter})
	}
	return list
}

// badSights returns lists of sights of which one sight has one colour that is none.
func badSights() [][]impl.Sight {
	var list [][]impl.Sight
	for length := 1; length <= 3; length++ {
		for block := range 6 * length {
			for _, colour := range []uint8{6, 7, 128, 255} {
				seen := make([]impl.Sight, length)
				seen[block/6][block%6] = colour
				list = append(list, seen)
			}
		}
	}
	return list
}

// badCodes returns codes each of which is not valid for one reason, and some for two.
func badCodes() []impl.Code {
	three := []impl.Flag{plain(0), plain(1), plain(2)}
	list := []impl.Code{
		{}, codeWith(nil, impl.Word{0}), codeWith(someFlags(41)), codeWith(someFlags(41), impl.Word{0, 1}), codeWith(someFlags(256), impl.Word{0}), codeWith(someFlags(257), impl.Word{0}),
		codeWith(three, impl.Word{3}), codeWith(three, impl.Word{0, 3}), codeWith(three, impl.Word{3, 0}), codeWith(three, impl.Word{0}, impl.Word{3}, impl.Word{1}), codeWith(three, impl.Word{36}), codeWith(three, impl.Word{255}),
		codeWith(someFlags(1), impl.Word{1}), codeWith(someFlags(36), impl.Word{36}), codeWith(someFlags(39), impl.Word{37}), codeWith(someFlags(40), impl.Word{37}), codeWith(someFlags(40), impl.Word{39}), codeWith(someFlags(40), impl.Word{40}),
		codeWith(three, impl.Word{0}, impl.Word{0, 1}), codeWith(three, impl.Word{0, 1}, impl.Word{0}), codeWith(three, impl.Word{0, 1}, impl.Word{0, 1}, impl.Word{0}), codeWith(three, impl.Word{0}, impl.Word{0, 1}, impl.Word{1}),
		codeWith(three, make([]impl.Word, 61)...), codeWith(three, slices.Repeat([]impl.Word{{0, 1}}, 61)...), codeWith(three, slices.Repeat([]impl.Word{{0}}, 256)...), codeWith(three, slices.Repeat([]impl.Word{{0}}, 1000)...),
	}
	for _, bad := range badFlags() {
		list = append(list, codeWith([]impl.Flag{bad}), codeWith([]impl.Flag{plain(0), bad}, impl.Word{0}), codeWith([]impl.Flag{bad, plain(0)}, impl.Word{1, 1}), codeWith([]impl.Flag{bad, bad}, impl.Word{2}))
	}
	for _, bad := range badLetters() {
		list = append(list, codeWith(someFlags(40), bad), codeWith(three, bad, impl.Word{0}), codeWith(three, impl.Word{0}, impl.Word{1}, bad))
	}
	return list
}
