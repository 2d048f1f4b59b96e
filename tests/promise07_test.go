package tests

import (
	"fmt"
	"math"
	"slices"
	"testing"

	"loop.example/g01299/impl"
)

// everyOrder returns all orders of so many numbers, from 0 on.
func everyOrder(size int) [][]int {
	orders := [][]int{{}}
	for next := range size {
		var longer [][]int
		for _, order := range orders {
			for at := range len(order) + 1 {
				longer = append(longer, slices.Insert(slices.Clone(order), at, next))
			}
		}
		orders = longer
	}
	return orders
}

// inOrder returns a book with its phrases, and their uses, in another order.
func inOrder(b impl.Book, counts []int64, order []int) (impl.Book, []int64) {
	other := book(b.Kinds, b.Length, b.Subs)
	var uses []int64
	for _, i := range order {
		other.Phrases = append(other.Phrases, b.Phrases[i])
		uses = append(uses, counts[i])
	}
	return other, uses
}

// toldShortest takes one phrase after the other: of those that are left the first one that is used the most.
func toldShortest(b impl.Book, counts []int64) (impl.Book, []int64) {
	var order []int
	for range counts {
		best := -1
		for i, uses := range counts {
			if !slices.Contains(order, i) && (best < 0 || uses > counts[best]) {
				best = i
			}
		}
		order = append(order, best)
	}
	return inOrder(b, counts, order)
}

func toldFlags(b impl.Book, counts []int64) int64 {
	flags := int64(0)
	for i, m := range toldMeant(b) {
		flags += counts[i] * int64(len(m))
	}
	return flags
}

// someUses returns uses of so many phrases, many of them equal.
func someUses(seed *numbers, size int) []int64 {
	counts := make([]int64, size)
	for i := range counts {
		counts[i] = []int64{0, 1, 1, 2, 3, 999999, 1000000}[seed.below(7)]
	}
	return counts
}

func TestPromise7FlagsOfThePhrases(t *testing.T) {
	seed := numbers(3)
	for _, b := range manyBooks() {
		for range 3 {
			counts := someUses(&seed, len(b.Phrases))
			same(t, nameOf(b), results(impl.FlagsFor(b, counts)), toldFlags(b, counts), impl.OK)
		}
	}
	tests := []struct {
		b      impl.Book
		counts []int64
		want   int64
	}{
		{book(3, 2, 0), nil, 0},
		{book(3, 2, 0, "yes", "no", "wait", "come", "go"), []int64{1, 1, 1, 9, 1}, 23},
		{book(3, 2, 0, "come", "yes", "no", "wait", "go"), []int64{9, 1, 1, 1, 1}, 15},
		{filled(1, 3, 2, 3), []int64{1, 10, 100}, 321},
		{filled(1, 3, 2, 3), []int64{0, 0, 1000000}, 3000000},
		{filled(10, 1, 0, 10), []int64{1000000, 1000000, 1000000, 1000000, 1000000, 1000000, 1000000, 1000000, 1000000, 1000000}, 10000000},
		{filled(3, 2, 0, 9), []int64{0, 0, 0, 0, 0, 0, 0, 0, 0}, 0},
		{filled(2, 3, 0, 4), []int64{1, 10, 100, 1000}, 2211},
		{filled(2, 3, 1, 7), []int64{1, 1, 1, 1, 1, 1, 1}, 13},
	}
	for _, test := range tests {
		same(t, nameOf(test.b), results(impl.FlagsFor(test.b, test.counts)), test.want, impl.OK)
	}
}

func TestPromise7OrderOfTheUses(t *testing.T) {
	seed := numbers(13)
	for _, b := range manyBooks() {
		for range 3 {
			counts := someUses(&seed, len(b.Phrases))
			want, sorted := toldShortest(b, counts)
			short, code := impl.ShortestBook(b, counts)
			same(t, fmt.Sprint(nameOf(b), counts), results(short, code), want, impl.OK)
			least, code := impl.FlagsFor(short, sorted)
			flags, _ := impl.FlagsFor(b, counts)
			if code != impl.OK || least > flags {
				t.Errorf("%s, %v: the shortest one needs %d, the book itself %d, code %d", nameOf(b), counts, least, flags, code)
			}
			same(t, "again", results(impl.ShortestBook(short, sorted)), want, impl.OK)
		}
	}
}

func TestPromise7ShortestBook(t *testing.T) {
	five := book(3, 2, 0, "yes", "no", "wait", "come", "go")
	tests := []struct {
		counts []int64
		want   []string
	}{
		{[]int64{1, 1, 1, 9, 1}, []string{"come", "yes", "no", "wait", "go"}},
		{[]int64{0, 0, 0, 0, 0}, []string{"yes", "no", "wait", "come", "go"}},
		{[]int64{5, 5, 5, 5, 5}, []string{"yes", "no", "wait", "come", "go"}},
		{[]int64{0, 1, 2, 3, 4}, []string{"go", "come", "wait", "no", "yes"}},
		{[]int64{1, 2, 1, 2, 1}, []string{"no", "come", "yes", "wait", "go"}},
		{[]int64{999999, 1000000, 0, 1000000, 1}, []string{"no", "come", "yes", "go", "wait"}},
	}
	for _, test := range tests {
		same(t, fmt.Sprint(test.counts), results(impl.ShortestBook(five, test.counts)), book(3, 2, 0, test.want...), impl.OK)
	}
	same(t, "no phrase", results(impl.ShortestBook(book(4, 3, 2), nil)), book(4, 3, 2), impl.OK)
	// So many equal ones that a sort that is not stable would mix them.
	hundred := filled(10, 3, 4, 100)
	same(t, "a hundred", results(impl.ShortestBook(hundred, make([]int64, 100))), hundred, impl.OK)
	counts := make([]int64, 100)
	for i := range counts {
		counts[i] = int64(i % 2)
	}
	want, _ := toldShortest(hundred, counts)
	same(t, "a hundred, two of a kind", results(impl.ShortestBook(hundred, counts)), want, impl.OK)
}

// TestPromise7NoOrderNeedsFewer tries all orders of the phrases.
func TestPromise7NoOrderNeedsFewer(t *testing.T) {
	seed := numbers(17)
	fewer := false
	for _, b := range []impl.Book{filled(1, 3, 2, 3), filled(1, 3, 1, 2), filled(2, 3, 0, 4), filled(2, 3, 1, 6), filled(2, 3, 4, 6), filled(3, 2, 0, 6), filled(3, 3, 1, 5), filled(4, 2, 0, 6), filled(5, 1, 0, 5), filled(1, 1, 0, 1), filled(1, 1, 0, 0)} {
		for range 4 {
			counts := someUses(&seed, len(b.Phrases))
			short, code := impl.ShortestBook(b, counts)
			same(t, nameOf(b), results(code), impl.OK)
			uses := make([]int64, len(counts))
			for i, phrase := range b.Phrases {
				uses[slices.Index(short.Phrases, phrase)] = counts[i]
			}
			least, code := impl.FlagsFor(short, uses)
			same(t, nameOf(b), results(code), impl.OK)
			for _, order := range everyOrder(len(counts)) {
				other, otherUses := inOrder(b, counts, order)
				flags, code := impl.FlagsFor(other, otherUses)
				if code != impl.OK || flags < least {
					t.Fatalf("%s, %v: %v needs %d, the shortest one %d, code %d", nameOf(b), counts, other.Phrases, flags, least, code)
				}
				fewer = fewer || flags > least
			}
		}
	}
	if !fewer {
		t.Error("all orders need as many flags")
	}
}

func TestPromise7Errors(t *testing.T) {
	const ok, outOfRange = int64(impl.OK), int64(impl.ErrRange)
	two := book(3, 2, 0, "yes", "no")
	tests := []struct {
		b      impl.Book
		counts []int64
		want   int64
	}{
		{two, []int64{0, 0}, ok}, {two, []int64{1000000, 1000000}, ok}, {two, []int64{0, 1000000}, ok},
		{two, []int64{-1, 0}, outOfRange}, {two, []int64{0, -1}, outOfRange}, {two, []int64{1000001, 0}, outOfRange}, {two, []int64{0, 1000001}, outOfRange},
		{two, []int64{math.MaxInt64, math.MaxInt64}, outOfRange}, {two, []int64{0, math.MinInt64}, outOfRange},
		{two, nil, outOfRange}, {two, []int64{1}, outOfRange}, {two, []int64{1, 1, 1}, outOfRange}, {two, []int64{1, 1, 0}, outOfRange}, {two, make([]int64, 1000000), outOfRange},
		{two, []int64{-1}, outOfRange}, {two, []int64{1, 1, -1}, outOfRange},
		{book(3, 2, 0), nil, ok}, {book(3, 2, 0), []int64{0}, outOfRange}, {filled(10, 3, 4, 100), make([]int64, 99), outOfRange}, {filled(10, 3, 4, 100), make([]int64, 101), outOfRange},
	}
	for _, test := range tests {
		flags, one := impl.FlagsFor(test.b, test.counts)
		short, two := impl.ShortestBook(test.b, test.counts)
		name := fmt.Sprint(nameOf(test.b), test.counts[:min(len(test.counts), 5)])
		same(t, name, results(one, two), test.want, test.want)
		if test.want != ok {
			same(t, name, results(flags, short), 0, impl.Book{})
		}
	}
	for _, uses := range bookExtremes {
		want := ok
		if uses < 0 || uses > 1000000 {
			want = outOfRange
		}
		_, one := impl.FlagsFor(two, []int64{1, uses})
		_, two := impl.ShortestBook(two, []int64{uses, 1})
		same(t, fmt.Sprint("uses ", uses), results(one, two), want, want)
	}
	for _, bad := range badBooks() {
		for _, counts := range [][]int64{nil, make([]int64, len(bad.Phrases)), {-1}, make([]int64, len(bad.Phrases)+1)} {
			same(t, nameOf(bad), results(impl.FlagsFor(bad, counts)), 0, impl.ErrInvalid)
			same(t, nameOf(bad), results(impl.ShortestBook(bad, counts)), impl.Book{}, impl.ErrInvalid)
		}
	}
}
