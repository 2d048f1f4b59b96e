package tests

import (
	"math"
	"regexp"
	"slices"
	"strconv"
	"strings"

	"loop.example/g01299/impl"
)

// lockerExtremes are numbers at and around all bounds of chapter 4, numbers that are other ones in fewer bits, and the ends of int64.
var lockerExtremes = []int64{math.MinInt64, -65536, -256, -21, -2, -1, 0, 1, 2, 3, 4, 5, 6, 7, 19, 20, 21, 39, 40, 41, 255, 256, 257, 276, 19999, 20000, 20001, 65536, 65556, math.MaxInt64}

// toldWord is a word of the text of a locker.
var toldWord = regexp.MustCompile(`^(s?)(0|[1-9]\d?)x([1-9]\d?)$`)

// toldLocker reads a text as the document tells it, and reports whether it is that of a locker.
func toldLocker(text string) (impl.Locker, bool) {
	var l impl.Locker
	if text == "-" {
		return l, true
	}
	last := -1
	for _, word := range strings.Split(text, " ") {
		parts := toldWord.FindStringSubmatch(word)
		if parts == nil {
			return impl.Locker{}, false
		}
		number, _ := strconv.Atoi(parts[2])
		count, _ := strconv.Atoi(parts[3])
		place := number
		if parts[1] == "s" {
			place = 39 + number
		}
		isSub := place > 39
		if isSub != (parts[1] == "s") || place > 43 || place <= last || count > 20 {
			return impl.Locker{}, false
		}
		last = place
		if isSub {
			l.Subs[number-1] = int16(count)
		} else {
			l.Flags[number] = int16(count)
		}
	}
	return l, true
}

// locker returns the locker with a text that is known to be right.
func locker(text string) impl.Locker {
	l, valid := toldLocker(text)
	if !valid {
		panic("no locker: " + text)
	}
	return l
}

// flags and substitutes, one behind the other
func toldPieces(l impl.Locker) []int16 { return slices.Concat(l.Flags[:], l.Subs[:]) }

func toldValidLocker(l impl.Locker) bool {
	list := toldPieces(l)
	return slices.Min(list) >= 0 && slices.Max(list) <= 20
}

func toldLockerText(l impl.Locker) string {
	var text string
	for i, count := range toldPieces(l) {
		name := strconv.Itoa(i)
		if i > 39 {
			name = "s" + strconv.Itoa(i-39)
		}
		if count != 0 {
			text += " " + name + "x" + strconv.Itoa(int(count))
		}
	}
	if text == "" {
		return "-"
	}
	return text[1:]
}

// toldNeed returns what hoists need. That may be more than a locker can have.
func toldNeed(hoists ...impl.Hoist) impl.Locker {
	var l impl.Locker
	for _, h := range hoists {
		for number, count := range toldCounts(h) {
			if number >= 0 {
				l.Flags[number] += int16(count)
			} else {
				l.Subs[-number-1] += int16(count)
			}
		}
	}
	return l
}

// toldDo makes a locker of two ones, number by number.
func toldDo(l, other impl.Locker, do func(a, b int16) int16) impl.Locker {
	for i := range l.Flags {
		l.Flags[i] = do(l.Flags[i], other.Flags[i])
	}
	for i := range l.Subs {
		l.Subs[i] = do(l.Subs[i], other.Subs[i])
	}
	return l
}

func toldPlus(l, other impl.Locker) impl.Locker {
	return toldDo(l, other, func(a, b int16) int16 { return a + b })
}

func toldMinus(l, other impl.Locker) impl.Locker {
	return toldDo(l, other, func(a, b int16) int16 { return a - b })
}

func toldMissing(l, need impl.Locker) impl.Locker {
	return toldDo(l, need, func(a, b int16) int16 { return max(0, b-a) })
}

func toldCovers(l, need impl.Locker) bool { return slices.Min(toldPieces(toldMinus(l, need))) >= 0 }

func toldSum(l impl.Locker) int64 {
	sum := int64(0)
	for _, count := range toldPieces(l) {
		sum += int64(count)
	}
	return sum
}

var knownHoists = map[string][]impl.Hoist{}

// knownFor returns toldHoists, but tries a meaning once only.
func knownFor(m impl.Meaning) []impl.Hoist {
	name := toldText(impl.Hoist(m))
	if _, known := knownHoists[name]; !known {
		knownHoists[name] = toldHoists(m)
	}
	return knownHoists[name]
}

// toldFirst returns the first hoist with a meaning for which there is enough, and whether there is one.
func toldFirst(l impl.Locker, m impl.Meaning) (impl.Hoist, bool) {
	for _, h := range knownFor(m) {
		if toldCovers(l, toldNeed(h)) {
			return h, true
		}
	}
	return nil, false
}

// toldSearch goes through the choices one by one, and counts each try.
func toldSearch(l impl.Locker, list []impl.Meaning, budget int64) ([]impl.Hoist, int64, int64) {
	tries, over := int64(0), false
	var search func(left impl.Locker, list []impl.Meaning) []impl.Hoist
	search = func(left impl.Locker, list []impl.Meaning) []impl.Hoist {
		if len(list) == 0 {
			return []impl.Hoist{}
		}
		for _, h := range knownFor(list[0]) {
			if over || !toldCovers(left, toldNeed(h)) {
				continue
			}
			if tries++; tries > budget {
				over = true
				break
			}
			if others := search(toldMinus(left, toldNeed(h)), list[1:]); others != nil {
				return append([]impl.Hoist{h}, others...)
			}
		}
		return nil
	}
	hoists := search(l, list)
	switch {
	case over:
		return nil, 0, impl.ErrBudget
	case hoists == nil:
		return nil, 0, impl.ErrNotFound
	}
	return hoists, tries, impl.OK
}

// toldNeeds returns all that may be needed for meanings that are flown at once.
func toldNeeds(list []impl.Meaning) map[impl.Locker]bool {
	needs := map[impl.Locker]bool{{}: true}
	for _, m := range list {
		more := map[impl.Locker]bool{}
		for need := range needs {
			for _, h := range knownFor(m) {
				more[toldPlus(need, toldNeed(h))] = true
			}
		}
		needs = more
	}
	return needs
}

// toldFewest returns how little is missing of what may be needed.
func toldFewest(l impl.Locker, list []impl.Meaning) int64 {
	fewest := int64(math.MaxInt64)
	for need := range toldNeeds(list) {
		fewest = min(fewest, toldSum(toldMissing(l, need)))
	}
	return fewest
}

func toldTogether(l impl.Locker, list []impl.Meaning) bool { return toldFewest(l, list) == 0 }

func toldInTurn(l impl.Locker, list []impl.Meaning) []int64 {
	var flown []int64
	for i, m := range list {
		if h, found := toldFirst(l, m); found {
			flown = append(flown, int64(i))
			l = toldMinus(l, toldNeed(h))
		}
	}
	return flown
}

// toldMostAtOnce goes through all lists of indices, and keeps the longest one, and of these the one that comes first.
func toldMostAtOnce(l impl.Locker, list []impl.Meaning) []int64 {
	var most []int64
	for bits := range 1 << len(list) {
		var indices []int64
		var chosen []impl.Meaning
		for i, m := range list {
			if bits>>i&1 == 1 {
				indices, chosen = append(indices, int64(i)), append(chosen, m)
			}
		}
		better := len(indices) > len(most) || len(indices) == len(most) && slices.Compare(indices, most) < 0
		if better && toldTogether(l, chosen) {
			most = indices
		}
	}
	return most
}

// ofRound returns the meanings of one round.
func ofRound(list []impl.Meaning, rounds []int64, number int64) []impl.Meaning {
	var round []impl.Meaning
	for i, other := range rounds {
		if other == number {
			round = append(round, list[i])
		}
	}
	return round
}

func toldRounds(l impl.Locker, list []impl.Meaning) ([]int64, int64, int64) {
	var rounds []int64
	count := int64(0)
	for _, m := range list {
		if !toldTogether(l, []impl.Meaning{m}) {
			return nil, 0, impl.ErrNotFound
		}
		number := int64(0)
		for !toldTogether(l, append(ofRound(list, rounds, number), m)) {
			number++
		}
		rounds = append(rounds, number)
		count = max(count, number+1)
	}
	return rounds, count, impl.OK
}

func toldCheck(l impl.Locker, list []impl.Meaning, rounds []int64) bool {
	for _, number := range rounds {
		if number < 0 || number >= int64(len(list)) {
			return false
		}
	}
	for number := range int64(len(list)) {
		if len(rounds) != len(list) || !toldTogether(l, ofRound(list, rounds, number)) {
			return false
		}
	}
	return len(rounds) == len(list)
}

// someLockers returns lockers with few pieces of few kinds, and some with more.
func someLockers(count int) []impl.Locker {
	seed := numbers(19)
	list := make([]impl.Locker, count)
	for k := range list {
		bound := 2 + k%3
		if k%16 == 0 {
			bound = 21
		}
		for i := range 4 {
			list[k].Flags[[]int{0, 1, 2, 39}[i]] = int16(seed.below(bound))
			list[k].Subs[i] = int16(seed.below(bound))
		}
	}
	return list
}

// someLists returns lists of 0 to 6 short meanings, many of which need the same flags and substitutes.
func someLists(count int) [][]impl.Meaning {
	seed := numbers(29)
	list := make([][]impl.Meaning, count)
	for k := range list {
		for range k % 7 {
			var m impl.Meaning
			for at := range 1 + seed.below(5) {
				if at > 0 && at < 3 && m[at-1] != impl.Break && seed.below(8) == 0 {
					m = append(m, impl.Break)
				} else {
					m = append(m, []int8{0, 0, 1, 1, 2, 39}[seed.below(6)])
				}
			}
			if m[len(m)-1] == impl.Break {
				m = append(m, 0)
			}
			list[k] = append(list[k], m)
		}
	}
	return list
}

// badLockers returns lockers that are not valid for one number each, and some more.
func badLockers() []impl.Locker {
	var list []impl.Locker
	for i := range 44 {
		for _, number := range []int16{-1, 21, math.MinInt16, math.MaxInt16, 256, -256} {
			l := locker("0x1 1x20 s1x1 s4x20")
			if i < 40 {
				l.Flags[i] = number
			} else {
				l.Subs[i-40] = number
			}
			list = append(list, l)
		}
	}
	var all impl.Locker
	for i := range all.Flags {
		all.Flags[i] = 21
	}
	return append(list, all, toldMinus(impl.Locker{}, all))
}
