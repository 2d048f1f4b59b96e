package tests

import (
	"fmt"
	"slices"
	"testing"

	"loop.example/g01299/impl"
)

func TestPromise12Example(t *testing.T) {
	same(t, "with checks", results(impl.WithChecks(5, impl.Word{1, 2})), impl.Word{1, 2, 3, 4}, impl.OK)
	same(t, "syndromes", results(impl.SyndromesOf(5, impl.Word{1, 2, 3, 4})), 0, 0, impl.OK)
	same(t, "checked", results(impl.IsChecked(5, impl.Word{1, 2, 3, 4})), true, impl.OK)
	same(t, "repaired", results(impl.RepairWord(5, impl.Word{1, 0, 3, 4})), impl.Word{1, 2, 3, 4}, 1, impl.OK)
}

// toldSyndromeCode is the first error of the functions with checks as the document tells it.
func toldSyndromeCode(letters int64, w impl.Word) int64 {
	if !slices.Contains(primes, letters) {
		return impl.ErrRange
	}
	if !toldWordOf(w, letters) || int64(len(w)) > letters-1 {
		return impl.ErrInvalid
	}
	return impl.OK
}

// toldRemainder takes away or adds a number until the rest is at least 0, and less than it.
func toldRemainder(number, by int64) int64 {
	for number >= by {
		number -= by
	}
	for number < 0 {
		number += by
	}
	return number
}

// holdChecks holds all functions with checks against what is told.
func holdChecks(t *testing.T, letters int64, w impl.Word) {
	t.Helper()
	name := fmt.Sprint(letters, " letters, word ", w)
	if code := toldSyndromeCode(letters, w); code != impl.OK {
		same(t, name+": syndromes", results(impl.SyndromesOf(letters, w)), 0, 0, code)
		same(t, name+": with checks", results(impl.WithChecks(letters, w)), impl.Word(nil), code)
		same(t, name+": checked", results(impl.IsChecked(letters, w)), false, code)
		same(t, name+": repaired", results(impl.RepairWord(letters, w)), impl.Word(nil), 0, code)
		return
	}
	sum, weighted := int64(0), int64(0)
	for i, letter := range w {
		for range letter {
			sum, weighted = toldRemainder(sum+1, letters), toldRemainder(weighted+int64(i)+1, letters)
		}
	}
	same(t, name+": syndromes", results(impl.SyndromesOf(letters, w)), sum, weighted, impl.OK)
	same(t, name+": checked", results(impl.IsChecked(letters, w)), toldChecked(letters, w), impl.OK)
	right, at, code := toldRepair(letters, w)
	same(t, name+": repaired", results(impl.RepairWord(letters, w)), right, at, code)
	if len(w)+2 > 8 || int64(len(w))+2 > letters-1 {
		same(t, name+": with checks", results(impl.WithChecks(letters, w)), impl.Word(nil), impl.ErrLimit)
		return
	}
	var checked []impl.Word
	for ends := range everyWord(letters, 2) {
		if longer := slices.Concat(w, ends); toldChecked(letters, longer) {
			checked = append(checked, longer)
		}
	}
	if len(checked) != 1 {
		t.Fatalf("%s: with checks it may be %v", name, checked)
	}
	same(t, name+": with checks", results(impl.WithChecks(letters, w)), checked[0], impl.OK)
}

func TestPromise12EveryShortWord(t *testing.T) {
	for _, size := range [][2]int64{{3, 1}, {3, 2}, {3, 3}, {5, 1}, {5, 2}, {5, 3}, {5, 4}, {5, 5}, {7, 1}, {7, 2}, {7, 3}, {7, 4}, {11, 1}, {11, 2}, {37, 1}} {
		for w := range everyWord(size[0], size[1]) {
			holdChecks(t, size[0], w)
		}
	}
}

func TestPromise12LongWords(t *testing.T) {
	seed := numbers(79)
	for _, letters := range primes {
		for length := 1; length <= 9; length++ {
			for range 12 {
				holdChecks(t, letters, drawnWord(&seed, int(letters), length))
			}
			holdChecks(t, letters, make(impl.Word, length))
			w := make(impl.Word, length)
			spoil(w, uint8(letters-1))
			holdChecks(t, letters, w)
		}
	}
}

func TestPromise12Letters(t *testing.T) {
	words := append(badLetters(), impl.Word{0}, impl.Word{0, 0}, impl.Word{2, 1}, impl.Word{0, 0, 0}, impl.Word{3, 1}, impl.Word{36}, make(impl.Word, 8))
	for letters := int64(-5); letters <= 60; letters++ {
		for _, w := range words {
			holdChecks(t, letters, w)
		}
	}
	for _, letters := range afarExtremes {
		for _, w := range words {
			holdChecks(t, letters, w)
		}
	}
	for _, letters := range primes {
		for letter := range 256 {
			holdChecks(t, letters, impl.Word{uint8(letter)})
			holdChecks(t, letters, impl.Word{0, uint8(letter)})
		}
	}
}

// TestPromise12OneWrong makes each letter of a checked word each wrong one.
func TestPromise12OneWrong(t *testing.T) {
	seed := numbers(83)
	repaired := 0
	for _, letters := range primes[1:] {
		for length := 1; length <= 6 && int64(length) <= letters-3; length++ {
			for range 6 {
				w := drawnWord(&seed, int(letters), length)
				checked, code := impl.WithChecks(letters, w)
				same(t, "with checks", results(len(checked), checked[:length], toldChecked(letters, checked), code), length+2, w, true, impl.OK)
				same(t, "checked", results(impl.IsChecked(letters, checked)), true, impl.OK)
				same(t, "nothing is wrong", results(impl.RepairWord(letters, checked)), checked, -1, impl.OK)
				for i, other := range oneOff(letters, checked) {
					same(t, "not checked", results(impl.IsChecked(letters, other)), false, impl.OK)
					same(t, fmt.Sprint(letters, " letters, word ", checked, ", read ", other), results(impl.RepairWord(letters, other)), checked, i, impl.OK)
					repaired++
				}
			}
		}
	}
	if repaired < 20000 {
		t.Errorf("only %d words have been put right", repaired)
	}
}

// TestPromise12TwoWrong makes two letters of a checked word wrong: it is then never put right, but taken for another one, or refused.
func TestPromise12TwoWrong(t *testing.T) {
	seed := numbers(89)
	others, refused := 0, 0
	for _, letters := range primes[1:] {
		for range 300 {
			length := 1 + seed.below(min(6, int(letters)-3))
			checked, _ := impl.WithChecks(letters, drawnWord(&seed, int(letters), length))
			w := slices.Clone(checked)
			first := seed.below(length + 1)
			for _, i := range []int{first, first + 1 + seed.below(length+1-first)} {
				w[i] = uint8((int64(w[i]) + 1 + int64(seed.below(int(letters)-1))) % letters)
			}
			name := fmt.Sprint(letters, " letters, word ", checked, ", read ", w)
			right, at, code := impl.RepairWord(letters, w)
			wantRight, wantAt, wantCode := toldRepair(letters, w)
			same(t, name, results(right, at, code), wantRight, wantAt, wantCode)
			if slices.Equal(right, checked) || at == -1 {
				t.Errorf("%s: %v, %d", name, right, at)
			}
			if code == impl.OK {
				others++
			} else {
				refused++
			}
		}
	}
	if others < 300 || refused < 300 {
		t.Errorf("%d words are taken for other ones, %d are refused", others, refused)
	}
	same(t, "the same wrong letter twice", results(impl.RepairWord(7, impl.Word{1, 6, 0, 0})), impl.Word(nil), 0, impl.ErrProof)
	same(t, "the sum is right", results(impl.RepairWord(5, impl.Word{1, 4})), impl.Word(nil), 0, impl.ErrProof)
	same(t, "the weighted sum is right", results(impl.RepairWord(5, impl.Word{1, 2})), impl.Word(nil), 0, impl.ErrProof)
	same(t, "the index is behind the word", results(impl.RepairWord(5, impl.Word{1, 1, 2, 1})), impl.Word(nil), 0, impl.ErrProof)
}

func TestPromise12CheckErrors(t *testing.T) {
	tests := []struct {
		name                                  string
		letters                               int64
		w                                     impl.Word
		syndromes, withChecks, checked, right int64
	}{
		{"no prime, and no word", 4, nil, impl.ErrRange, impl.ErrRange, impl.ErrRange, impl.ErrRange},
		{"two, and a letter too great", 2, impl.Word{2}, impl.ErrRange, impl.ErrRange, impl.ErrRange, impl.ErrRange},
		{"two", 2, impl.Word{0}, impl.ErrRange, impl.ErrRange, impl.ErrRange, impl.ErrRange},
		{"one", 1, impl.Word{0}, impl.ErrRange, impl.ErrRange, impl.ErrRange, impl.ErrRange},
		{"nine", 9, impl.Word{0}, impl.ErrRange, impl.ErrRange, impl.ErrRange, impl.ErrRange},
		{"too many letters", 41, impl.Word{37}, impl.ErrRange, impl.ErrRange, impl.ErrRange, impl.ErrRange},
		{"a letter too great", 5, impl.Word{5}, impl.ErrInvalid, impl.ErrInvalid, impl.ErrInvalid, impl.ErrInvalid},
		{"a letter too great, and too long for checks", 5, impl.Word{0, 0, 0, 5}, impl.ErrInvalid, impl.ErrInvalid, impl.ErrInvalid, impl.ErrInvalid},
		{"no letter with 37", 37, impl.Word{37}, impl.ErrInvalid, impl.ErrInvalid, impl.ErrInvalid, impl.ErrInvalid},
		{"longer than letters - 1", 3, impl.Word{0, 0, 0}, impl.ErrInvalid, impl.ErrInvalid, impl.ErrInvalid, impl.ErrInvalid},
		{"longer than letters - 1", 7, make(impl.Word, 7), impl.ErrInvalid, impl.ErrInvalid, impl.ErrInvalid, impl.ErrInvalid},
		{"as long as letters - 1", 3, impl.Word{0, 0}, impl.OK, impl.ErrLimit, impl.OK, impl.OK},
		{"with checks longer than letters - 1", 3, impl.Word{0}, impl.OK, impl.ErrLimit, impl.OK, impl.OK},
		{"with checks longer than letters - 1", 5, impl.Word{0, 0, 0}, impl.OK, impl.ErrLimit, impl.OK, impl.OK},
		{"with checks as long as letters - 1", 7, make(impl.Word, 4), impl.OK, impl.OK, impl.OK, impl.OK},
		{"with checks longer than MaxLength", 11, make(impl.Word, 7), impl.OK, impl.ErrLimit, impl.OK, impl.OK},
		{"with checks as long as MaxLength", 11, make(impl.Word, 6), impl.OK, impl.OK, impl.OK, impl.OK},
		{"as long as MaxLength", 37, make(impl.Word, 8), impl.OK, impl.ErrLimit, impl.OK, impl.OK},
		{"longer than MaxLength", 37, make(impl.Word, 9), impl.ErrInvalid, impl.ErrInvalid, impl.ErrInvalid, impl.ErrInvalid},
	}
	for _, test := range tests {
		got := results(codeOf(results(impl.SyndromesOf(test.letters, test.w))), codeOf(results(impl.WithChecks(test.letters, test.w))),
			codeOf(results(impl.IsChecked(test.letters, test.w))), codeOf(results(impl.RepairWord(test.letters, test.w))))
		same(t, test.name, got, test.syndromes, test.withChecks, test.checked, test.right)
	}
}
