package tests

import (
	"iter"
	"math"
	"slices"
	"strconv"
	"strings"

	"loop.example/g01299/impl"
)

// hoistExtremes are numbers at and around all bounds of chapter 2, numbers that are other ones as int8, and the ends of int64.
var hoistExtremes = []int64{math.MinInt64, -256, -11, -10, -9, -5, -4, -3, -2, -1, 0, 1, 2, 3, 4, 5, 6, 7, 8, 9, 38, 39, 40, 41, 127, 128, 246, 255, 256, 257, math.MaxInt64}

// hoistNumbers are numbers that hoists have, and others around them, in ascending order.
var hoistNumbers = []int8{-128, -11, impl.Break, -9, -5, -4, -3, -2, -1, 0, 1, 39, 40, 127}

// everyList goes through all lists of so many numbers, in ascending order if the numbers are.
func everyList(from []int8, length int) iter.Seq[impl.Hoist] {
	return func(yield func(impl.Hoist) bool) {
		list := make(impl.Hoist, length)
		var fill func(at int) bool
		fill = func(at int) bool {
			if at == length {
				return yield(slices.Clone(list))
			}
			for _, number := range from {
				list[at] = number
				if !fill(at + 1) {
					return false
				}
			}
			return true
		}
		fill(0)
	}
}

// toldRoot returns the place of the flag that is meant at a place, from substitute to substitute, or -1 if there is none.
func toldRoot(h impl.Hoist, at int) int {
	if h[at] >= 0 || h[at] == impl.Break {
		return at
	}
	top := 0
	for i := range at {
		if h[i] == impl.Break {
			top = i + 1
		}
	}
	repeated := top - int(h[at]) - 1
	if h[at] < -4 || repeated >= at {
		return -1
	}
	return toldRoot(h, repeated)
}

// toldMeaning returns what a hoist means as the document tells it, and whether the hoist is valid.
func toldMeaning(h impl.Hoist) (impl.Meaning, bool) {
	if len(h) < 1 || len(h) > 8 {
		return nil, false
	}
	m := make(impl.Meaning, len(h))
	for i, number := range h {
		root := toldRoot(h, i)
		if root < 0 || h[root] > 39 {
			return nil, false
		}
		if number == impl.Break && (i == 0 || i == len(h)-1 || h[i-1] == impl.Break) {
			return nil, false
		}
		m[i] = h[root]
	}
	return m, true
}

// toldCounts returns how many of each number but Break there are.
func toldCounts(h impl.Hoist) map[int8]int64 {
	counts := map[int8]int64{}
	for _, number := range h {
		if number != impl.Break {
			counts[number]++
		}
	}
	return counts
}

func toldSets(h impl.Hoist) int64 {
	most := int64(0)
	for _, count := range toldCounts(h) {
		most = max(most, count)
	}
	return most
}

// toldWithin reports whether so many sets, with so many substitutes, are enough for a hoist.
func toldWithin(h impl.Hoist, sets, subs int64) bool {
	for number := range toldCounts(h) {
		if int64(number) < -subs {
			return false
		}
	}
	return toldSets(h) <= sets
}

// toldHoists tries all substitutes at all places, and returns all hoists with a meaning, in ascending order.
func toldHoists(m impl.Meaning) []impl.Hoist {
	var list []impl.Hoist
	for h := range everyList([]int8{-4, -3, -2, -1, 0}, len(m)) {
		for i, number := range h {
			if number == 0 {
				h[i] = m[i]
			}
		}
		if meant, valid := toldMeaning(h); valid && slices.Equal(meant, m) {
			list = append(list, h)
		}
	}
	slices.SortFunc(list, func(a, b impl.Hoist) int { return slices.Compare(a, b) })
	return list
}

// toldCount goes through all hoists of one group, and counts what they mean.
func toldCount(kinds, length, sets, subs int64) int64 {
	var from []int8
	for number := -subs; number < kinds; number++ {
		from = append(from, int8(number))
	}
	meanings := map[string]bool{}
	for h := range everyList(from, int(length)) {
		if m, valid := toldMeaning(h); valid && toldWithin(h, sets, subs) {
			meanings[toldText(impl.Hoist(m))] = true
		}
	}
	return int64(len(meanings))
}

func toldText(h impl.Hoist) string {
	words := make([]string, len(h))
	for i, number := range h {
		switch {
		case number == impl.Break:
			words[i] = "/"
		case number < 0:
			words[i] = "s" + strconv.Itoa(-int(number))
		default:
			words[i] = strconv.Itoa(int(number))
		}
	}
	return strings.Join(words, " ")
}

// someHoists returns valid hoists of 1 to 8 numbers, most of them with breaks and with substitutes that repeat substitutes.
func someHoists(count int) []impl.Hoist {
	seed := numbers(11)
	list := make([]impl.Hoist, count)
	for k := range list {
		above := 0
		for range 1 + k%8 {
			h := list[k]
			switch draw := seed.below(10); {
			case above > 0 && draw < 5:
				list[k] = append(h, int8(-1-seed.below(min(above, 4))))
			case above > 0 && draw == 5 && len(h) < k%8:
				list[k] = append(h, impl.Break)
				above = -1
			default:
				list[k] = append(h, int8([]int{0, 1, 2, 38, 39}[seed.below(5)]))
			}
			above++
		}
	}
	return list
}

// badHoists returns hoists each of which is not valid for one reason.
func badHoists() []impl.Hoist {
	const gap = impl.Break
	return []impl.Hoist{
		nil, {},
		make(impl.Hoist, 9), make(impl.Hoist, 1000000), {1, 2, gap, 3, -1, gap, 4, -1, -1},
		{40}, {127}, {0, 40}, {-128}, {1, -128}, {1, 2, 3, 4, 5, -5}, {1, 2, 3, 4, 5, 6, -6}, {1, -9, 1}, {1, -11, 1},
		{gap}, {gap, 1}, {1, gap}, {gap, 1, gap}, {1, gap, gap, 2}, {1, 2, gap, -1, gap}, {1, gap, gap, gap, 2},
		{-1}, {-1, 0}, {1, -2}, {1, 2, -3}, {1, 2, 3, -4}, {1, -1, -3}, {1, -1, -2, -4}, {1, -2, 2},
		{1, gap, -1}, {1, gap, -1, 2}, {1, 2, gap, 3, -2}, {1, 2, 3, gap, 1, -1, -3}, {1, 2, 3, 4, gap, 1, 2, -3}, {1, 2, gap, 3, gap, 4, -2},
	}
}

// badMeanings returns what is no meaning: invalid hoists, and hoists with substitutes.
func badMeanings() []impl.Meaning {
	list := []impl.Meaning{{1, -1}, {1, 2, -2}, {1, impl.Break, 2, -1}, {1, -1, -2}, {1, 2, 3, 4, -4}}
	for _, h := range badHoists() {
		list = append(list, impl.Meaning(h))
	}
	return list
}
