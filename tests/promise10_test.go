package tests

import (
	"fmt"
	"math"
	"runtime"
	"slices"
	"testing"
	"time"

	"loop.example/g01299/impl"
)

const gap = impl.Break

func eight(kind int8) impl.Meaning { return impl.Meaning(repeatedNumber(kind, 8)) }

func TestPromise10Example(t *testing.T) {
	l := locker("3x1 5x1 s1x1")
	same(t, "one meaning", results(impl.HoistFrom(l, impl.Meaning{3, 3})), impl.Hoist{3, -1}, impl.OK)
	list := []impl.Meaning{{3, 3}, {5}, {3}}
	same(t, "at once", results(impl.MostAtOnce(l, list)), []int64{0, 1}, impl.OK)
	same(t, "to buy", results(impl.FewestToBuy(l, list)), 1, impl.OK)
	same(t, "rounds", results(impl.RoundsFor(l, list)), []int64{0, 0, 1}, 2, impl.OK)
}

func TestPromise10HoistFrom(t *testing.T) {
	found, none := 0, 0
	lockers := someLockers(80)
	for k, list := range someLists(700) {
		for _, m := range list {
			l := lockers[k%len(lockers)]
			name := fmt.Sprint(toldLockerText(l), m)
			h, code := impl.HoistFrom(l, m)
			want, is := toldFirst(l, m)
			if !is {
				none++
				same(t, name, results(h, code), impl.Hoist(nil), impl.ErrNotFound)
				continue
			}
			found++
			same(t, name, results(h, code), want, impl.OK)
			meant, valid := toldMeaning(h)
			same(t, name, results(meant, valid, toldCovers(l, toldNeed(h))), m, true, true)
		}
	}
	if found < 100 || none < 100 {
		t.Errorf("%d hoists are found, %d are not", found, none)
	}
}

func TestPromise10WhichHoistFrom(t *testing.T) {
	full, _ := impl.EvenLocker(20, 40, 4)
	fullText := toldLockerText(full)
	tests := []struct {
		l    string
		m    impl.Meaning
		want impl.Hoist
	}{
		{"0x1", impl.Meaning{0}, impl.Hoist{0}},
		{"39x1", impl.Meaning{39}, impl.Hoist{39}},
		{"s1x20", impl.Meaning{0}, nil},
		{"-", impl.Meaning{0}, nil},
		{"1x20", impl.Meaning{0}, nil},
		{fullText, impl.Meaning{3, 3}, impl.Hoist{3, -1}},
		{fullText, impl.Meaning{3, 3, 3}, impl.Hoist{3, -1, -2}},
		{fullText, eight(7), impl.Hoist{7, -1, -2, -3, -4, -4, -4, -4}},
		{"7x8", eight(7), impl.Hoist{7, 7, 7, 7, 7, 7, 7, 7}},
		{"7x7", eight(7), nil},
		{"7x1 s1x7", eight(7), impl.Hoist{7, -1, -1, -1, -1, -1, -1, -1}},
		{"7x1 s2x7", eight(7), nil},
		{"7x2 s2x6", eight(7), impl.Hoist{7, 7, -2, -2, -2, -2, -2, -2}},
		{"7x4 s4x4", eight(7), impl.Hoist{7, 7, 7, 7, -4, -4, -4, -4}},
		{"7x1 s1x1 s2x1 s3x1 s4x4", eight(7), impl.Hoist{7, -1, -2, -3, -4, -4, -4, -4}},
		{"7x1 s1x1 s2x1 s3x1 s4x3", eight(7), nil},
		// A substitute is the only way.
		{"3x1 5x1 s1x1", impl.Meaning{3, 5, 3}, impl.Hoist{3, 5, -1}},
		{"3x1 5x1 s2x1", impl.Meaning{3, 5, 3}, nil},
		{"3x1 5x1 s2x1", impl.Meaning{3, 5, 5}, impl.Hoist{3, 5, -2}},
		{"3x1 5x1 s1x1 s2x1", impl.Meaning{3, 5, 5, 3}, impl.Hoist{3, 5, -2, -1}},
		{"3x1 5x1 s1x1 s3x1", impl.Meaning{3, 3, 3, 5}, impl.Hoist(nil)},
		{"3x1 5x1 s1x1 s3x1", impl.Meaning{3, 5, 3, 3}, impl.Hoist{3, 5, -1, -3}},
		// Two groups have their own places, but one locker.
		{"3x2 s1x2", impl.Meaning{3, 3, gap, 3, 3}, impl.Hoist{3, -1, gap, 3, -1}},
		{"3x3 s1x1", impl.Meaning{3, 3, gap, 3, 3}, impl.Hoist{3, -1, gap, 3, 3}},
		{"3x2 s1x1 s2x1", impl.Meaning{3, 3, gap, 3, 3}, nil},
		{"3x1 s1x3", impl.Meaning{3, 3, gap, 3, 3}, nil},
		{"1x1 2x1 s1x2", impl.Meaning{1, 1, gap, 2, 2}, impl.Hoist{1, -1, gap, 2, -1}},
		// The first group must not take the substitute that is the only way of the second one.
		{"1x2 2x1 s1x1", impl.Meaning{1, 1, gap, 2, 2}, impl.Hoist{1, 1, gap, 2, -1}},
		{"1x3 2x1 s1x1 s2x1", impl.Meaning{1, 1, 1, gap, 2, 2}, impl.Hoist{1, 1, -2, gap, 2, -1}},
		{"1x2 2x2 s1x1 s2x1", impl.Meaning{1, 1, 1, gap, 2, 2, 2}, impl.Hoist{1, -1, 1, gap, 2, 2, -2}},
		{"1x2 2x1 s1x1 s2x1", impl.Meaning{1, 1, 1, gap, 2, 2, 2}, nil},
		{"1x2 2x2 s1x1 s2x1", impl.Meaning{1, 1, 1, gap, 2, 2}, impl.Hoist{1, -1, -2, gap, 2, 2}},
	}
	for _, test := range tests {
		code := int64(impl.OK)
		if test.want == nil {
			code = impl.ErrNotFound
		}
		same(t, fmt.Sprint(test.l, test.m), results(impl.HoistFrom(locker(test.l), test.m)), test.want, code)
	}
}

func TestPromise10HoistsFrom(t *testing.T) {
	codes := map[int64]int{}
	lockers := someLockers(90)
	for k, list := range someLists(1500) {
		l := lockers[k%len(lockers)]
		for _, budget := range []int64{20000, 40, 7, 2} {
			name := fmt.Sprint(toldLockerText(l), list, budget)
			want, wantTries, wantCode := toldSearch(l, list, budget)
			hoists, tries, code := impl.HoistsFrom(l, list, budget)
			same(t, name, results(hoists, tries, code), want, wantTries, wantCode)
			codes[code]++
			if code != impl.OK {
				continue
			}
			same(t, name, results(len(hoists), toldCovers(l, toldNeed(hoists...))), len(list), true)
			for i, h := range hoists {
				meant, valid := toldMeaning(h)
				same(t, name, results(meant, valid), list[i], true)
			}
		}
	}
	if len(codes) != 3 || codes[impl.OK] < 100 || codes[impl.ErrNotFound] < 100 || codes[impl.ErrBudget] < 100 {
		t.Errorf("how often there is which code: %v", codes)
	}
}

func TestPromise10WhichHoistsFrom(t *testing.T) {
	tests := []struct {
		l     string
		list  []impl.Meaning
		want  []impl.Hoist
		tries int64
	}{
		{"-", nil, nil, 0},
		{"3x1 5x1 s1x1", []impl.Meaning{{3, 3}, {5}}, []impl.Hoist{{3, -1}, {5}}, 2},
		{"0x6", repeatedMeanings(impl.Meaning{0}, 6), repeated(impl.Hoist{0}, 6), 6},
		{"0x8 s1x4", repeatedMeanings(impl.Meaning{0, 0}, 6), []impl.Hoist{{0, -1}, {0, -1}, {0, -1}, {0, -1}, {0, 0}, {0, 0}}, 6},
		// The first hoist of the first meaning leaves no substitute for the second one.
		{"1x2 2x1 s1x1", []impl.Meaning{{1, 1}, {2, 2}}, []impl.Hoist{{1, 1}, {2, -1}}, 3},
		{"1x3 2x1 s1x1 s2x1", []impl.Meaning{{1, 1, 1}, {2, 2}}, []impl.Hoist{{1, 1, -2}, {2, -1}}, 4},
		{"1x3 2x1 s1x1", []impl.Meaning{{1, 1, 1}, {2, 2}}, []impl.Hoist{{1, 1, 1}, {2, -1}}, 4},
		// It leaves no flag.
		{"1x2 s1x1", []impl.Meaning{{1}, {1, 1}}, []impl.Hoist{{1}, {1, -1}}, 2},
		{"1x3 2x2 s1x1", []impl.Meaning{{1, 2, 1}, {2, 1, 2}}, []impl.Hoist{{1, 2, 1}, {2, 1, -1}}, 3},
		{"1x3 2x3 s1x1", []impl.Meaning{{1, 1}, {2, 2}, {1, 1}}, []impl.Hoist{{1, -1}, {2, 2}, {1, 1}}, 3},
		// The search goes back over more than one meaning.
		{"1x2 2x2 3x1 s1x1", []impl.Meaning{{1, 1}, {2, 2}, {3, 3}}, []impl.Hoist{{1, 1}, {2, 2}, {3, -1}}, 6},
		{"1x2 2x2 3x1 s1x1 s2x20", []impl.Meaning{{1, 1}, {2, 2}, {3, 3}}, []impl.Hoist{{1, 1}, {2, 2}, {3, -1}}, 6},
	}
	for _, test := range tests {
		name := fmt.Sprint(test.l, test.list)
		same(t, name, results(impl.HoistsFrom(locker(test.l), test.list, 20000)), test.want, test.tries, impl.OK)
		same(t, name, results(toldSearch(locker(test.l), test.list, 20000)), test.want, test.tries, impl.OK)
	}
	for _, l := range []string{"1x1 2x1", "1x2 2x1", "1x1 2x20 s2x20", "1x1 2x1 s1x1", "2x2 s1x2"} {
		same(t, l, results(impl.HoistsFrom(locker(l), []impl.Meaning{{1, 1}, {2, 2}}, 20000)), []impl.Hoist(nil), 0, impl.ErrNotFound)
	}
}

func repeatedMeanings(m impl.Meaning, count int) []impl.Meaning {
	list := make([]impl.Meaning, count)
	for i := range list {
		list[i] = slices.Clone(m)
	}
	return list
}

func TestPromise10Budgets(t *testing.T) {
	full, _ := impl.EvenLocker(20, 40, 4)
	for _, budget := range lockerExtremes {
		hoists, tries, code := impl.HoistsFrom(full, []impl.Meaning{{0, 0}, {1}, {2}}, budget)
		switch name := fmt.Sprint("budget ", budget); {
		case budget < 0 || budget > 20000:
			same(t, name, results(hoists, tries, code), []impl.Hoist(nil), 0, impl.ErrRange)
		case budget < 3:
			same(t, name, results(hoists, tries, code), []impl.Hoist(nil), 0, impl.ErrBudget)
		default:
			same(t, name, results(hoists, tries, code), []impl.Hoist{{0, -1}, {1}, {2}}, 3, impl.OK)
		}
		for _, list := range [][]impl.Meaning{nil, {{0}}, {{1}, {0}}} {
			want := int64(impl.ErrNotFound)
			switch {
			case budget < 0 || budget > 20000:
				want = impl.ErrRange
			case len(list) == 0:
				want = impl.OK
			case len(list) == 2 && budget == 0:
				want = impl.ErrBudget
			}
			same(t, fmt.Sprint(list, budget), results(impl.HoistsFrom(locker("1x20 s1x20"), list, budget)), []impl.Hoist(nil), 0, want)
		}
	}
	// The number of tries that is just needed, and one less.
	lockers, tried := someLockers(40), 0
	for k, list := range someLists(1000) {
		l := lockers[k%len(lockers)]
		hoists, tries, code := toldSearch(l, list, 20000)
		name := fmt.Sprint(toldLockerText(l), list)
		if code == impl.ErrNotFound {
			needed := toldTries(l, list)
			same(t, name, results(impl.HoistsFrom(l, list, needed)), []impl.Hoist(nil), 0, impl.ErrNotFound)
			if needed > 0 {
				tried++
				same(t, name, results(impl.HoistsFrom(l, list, needed-1)), []impl.Hoist(nil), 0, impl.ErrBudget)
			}
		}
		if code == impl.OK {
			same(t, name, results(impl.HoistsFrom(l, list, tries)), hoists, tries, impl.OK)
			if tries > 0 {
				tried++
				same(t, name, results(impl.HoistsFrom(l, list, tries-1)), []impl.Hoist(nil), 0, impl.ErrBudget)
			}
		}
	}
	if tried < 200 {
		t.Errorf("only %d budgets are tried", tried)
	}
}

// toldTries returns with how many tries it is found that there is no choice.
func toldTries(l impl.Locker, list []impl.Meaning) int64 {
	least, most := int64(0), int64(20000)
	for least < most {
		middle := (least + most) / 2
		if _, _, code := toldSearch(l, list, middle); code == impl.ErrBudget {
			least = middle + 1
		} else {
			most = middle
		}
	}
	return least
}

// TestPromise10LongSearches has meanings with so many hoists that the numbers of tries are great; they are counted by closed formulas.
func TestPromise10LongSearches(t *testing.T) {
	full, _ := impl.EvenLocker(20, 40, 4)
	full.Flags[9] = 0
	const eights = 2 * 3 * 4 * 5 * 5 * 5 * 5 // hoists with the meaning of eight equal flags
	tests := []struct {
		list  []impl.Meaning
		tries int64
	}{
		{[]impl.Meaning{eight(1), {9}}, eights},
		{[]impl.Meaning{eight(1), {2, 2, 2, 2, 2, 2, 2, 9}}, eights},
		{[]impl.Meaning{{1, 1, 1}, {2, 2, 2}, {3, 3, 3}, {9}}, 6 + 6*6 + 6*6*6},
		{[]impl.Meaning{{1, 1, 1, 1, 1}, {2, 2, 2, 2, 2}, {9}}, 120 + 120*120},
		{[]impl.Meaning{{1, 1, 1, 1}, {2, 2, 2, 2}, {3, 3, 3}, {4, 4}, {9}}, 24 + 24*24 + 24*24*6 + 24*24*6*2},
		{[]impl.Meaning{{1, 1, gap, 1, 1, 1}, {2, 2, 2}, {3, 3, 3}, {9, 9}}, 12 + 12*6 + 12*6*6},
		{[]impl.Meaning{{9}, eight(1)}, 0},
	}
	for _, test := range tests {
		name := fmt.Sprint(test.list)
		same(t, name, results(impl.HoistsFrom(full, test.list, test.tries)), []impl.Hoist(nil), 0, impl.ErrNotFound)
		same(t, name, results(impl.HoistsFrom(full, test.list, 20000)), []impl.Hoist(nil), 0, impl.ErrNotFound)
		if test.tries > 0 {
			same(t, name, results(impl.HoistsFrom(full, test.list, test.tries-1)), []impl.Hoist(nil), 0, impl.ErrBudget)
		}
	}
	// 20000 tries are not enough: 24 + 24 * 24 + 24 * 24 * 24 + 24 * 24 * 24 * 2
	same(t, "too many", results(impl.HoistsFrom(full, []impl.Meaning{{1, 1, 1, 1}, {2, 2, 2, 2}, {3, 3, 3, 3}, {4, 4}, {9}}, 20000)), []impl.Hoist(nil), 0, impl.ErrBudget)
	// All hoists of the first meaning but the last one leave too few substitutes.
	l := locker("1x6 2x1 s1x1 s2x1 s3x1 s4x2")
	list := []impl.Meaning{{1, 1, 1, 1, 1, 1}, {2, 2, 2, 2, 2, 2}}
	hoists, tries, code := impl.HoistsFrom(l, list, 20000)
	want, wantTries, wantCode := toldSearch(l, list, 20000)
	same(t, "the last one", results(hoists, tries, code), want, wantTries, wantCode)
	same(t, "the last one", results(hoists, code), []impl.Hoist{{1, 1, 1, 1, 1, 1}, {2, -1, -2, -3, -4, -4}}, impl.OK)
	same(t, "just enough", results(impl.HoistsFrom(l, list, wantTries)), want, wantTries, impl.OK)
	same(t, "one less", results(impl.HoistsFrom(l, list, wantTries-1)), []impl.Hoist(nil), 0, impl.ErrBudget)
}

func TestPromise10FlyInTurn(t *testing.T) {
	lockers := someLockers(90)
	lengths := map[int]int{}
	for k, list := range someLists(900) {
		l := lockers[k%len(lockers)]
		flown, code := impl.FlyInTurn(l, list)
		same(t, fmt.Sprint(toldLockerText(l), list), results(flown, code), toldInTurn(l, list), impl.OK)
		lengths[len(flown)]++
	}
	if len(lengths) != 7 {
		t.Errorf("how many are flown: %v", lengths)
	}
	tests := []struct {
		l    string
		list []impl.Meaning
		want []int64
	}{
		{"-", nil, nil},
		{"-", []impl.Meaning{{0}, {1}}, nil},
		{"0x1 1x1", []impl.Meaning{{0}, {0}, {1}}, []int64{0, 2}},
		{"0x1 1x1", []impl.Meaning{{2}, {1, 1}, {1}, {0}}, []int64{2, 3}},
		{"1x2 2x1 s1x1", []impl.Meaning{{1, 1}, {2, 2}}, []int64{0}}, // though both go together
		{"1x2 2x1 s1x1", []impl.Meaning{{2, 2}, {1, 1}}, []int64{0, 1}},
		{"0x6", repeatedMeanings(impl.Meaning{0}, 6), []int64{0, 1, 2, 3, 4, 5}},
		{"0x5", repeatedMeanings(impl.Meaning{0}, 6), []int64{0, 1, 2, 3, 4}},
	}
	for _, test := range tests {
		same(t, fmt.Sprint(test.l, test.list), results(impl.FlyInTurn(locker(test.l), test.list)), test.want, impl.OK)
	}
}

func TestPromise10NoGoroutineIsLeft(t *testing.T) {
	before := runtime.NumGoroutine()
	full, _ := impl.EvenLocker(20, 40, 4)
	list := []impl.Meaning{eight(1), eight(2), {9}, {1, gap, 1}, {3, 3}}
	for _, l := range append(someLockers(20), full, impl.Locker{}) {
		lockerCalls(l, full, nil, list, list[0], 100, nil, "-")
	}
	for range 1000 { // one that has closed its channel may not have ended yet
		if runtime.NumGoroutine() <= before {
			return
		}
		time.Sleep(time.Millisecond)
	}
	t.Errorf("%d goroutines, before %d", runtime.NumGoroutine(), before)
}

func TestPromise10Errors(t *testing.T) {
	good := locker("0x1 s1x1")
	lists := [][]impl.Meaning{nil, {{0}}, {{1}}, {nil}, repeatedMeanings(impl.Meaning{0}, 7)}
	for _, bad := range badLockers() {
		for _, list := range lists {
			same(t, "invalid locker", meaningErrors(bad, list, -1), impl.ErrInvalid, impl.ErrInvalid, impl.ErrInvalid, impl.ErrInvalid, impl.ErrInvalid, impl.ErrInvalid)
		}
		same(t, "invalid locker", results(impl.HoistFrom(bad, impl.Meaning{0})), impl.Hoist(nil), impl.ErrInvalid)
		same(t, "invalid locker", results(impl.HoistFrom(bad, nil)), impl.Hoist(nil), impl.ErrInvalid)
	}
	for _, bad := range badMeanings() {
		same(t, "invalid meaning", results(impl.HoistFrom(good, bad)), impl.Hoist(nil), impl.ErrInvalid)
		for at := range 8 {
			list := slices.Insert(repeatedMeanings(impl.Meaning{0}, 7), at, bad)
			for _, part := range [][]impl.Meaning{list, list[at : at+1], list[:at+1], list[at:]} {
				same(t, "invalid meaning", meaningErrors(good, part, -1), impl.ErrInvalid, impl.ErrInvalid, impl.ErrInvalid, impl.ErrInvalid, impl.ErrInvalid, impl.ErrInvalid)
			}
		}
	}
	for count := range 10 {
		list := repeatedMeanings(impl.Meaning{0}, count)
		if count > 6 {
			same(t, fmt.Sprint(count, " meanings"), meaningErrors(good, list, -1), impl.ErrLimit, impl.ErrLimit, impl.ErrLimit, impl.ErrLimit, impl.ErrLimit, impl.ErrLimit)
			same(t, fmt.Sprint(count, " meanings"), meaningErrors(impl.Locker{}, list, 20001), impl.ErrLimit, impl.ErrLimit, impl.ErrLimit, impl.ErrLimit, impl.ErrLimit, impl.ErrLimit)
			continue
		}
		same(t, fmt.Sprint(count, " meanings"), meaningErrors(locker("0x6"), list, -1), impl.ErrRange, impl.OK, impl.OK, impl.OK, impl.OK, impl.OK)
		same(t, fmt.Sprint(count, " meanings"), meaningErrors(locker("0x6"), list, 6), impl.OK, impl.OK, impl.OK, impl.OK, impl.OK, impl.OK)
		if count > 0 {
			same(t, fmt.Sprint(count, " meanings, none"), meaningErrors(impl.Locker{}, list, 0), impl.ErrNotFound, impl.OK, impl.OK, impl.OK, impl.ErrNotFound, impl.OK)
			same(t, fmt.Sprint(count, " meanings, a wrong budget"), meaningErrors(impl.Locker{}, list, math.MinInt64), impl.ErrRange, impl.OK, impl.OK, impl.OK, impl.ErrNotFound, impl.OK)
		}
	}
}

// meaningErrors returns the codes of the functions with several meanings.
func meaningErrors(l impl.Locker, list []impl.Meaning, budget int64) []any {
	hoists, tries, one := impl.HoistsFrom(l, list, budget)
	turn, two := impl.FlyInTurn(l, list)
	most, three := impl.MostAtOnce(l, list)
	buy, four := impl.FewestToBuy(l, list)
	rounds, count, five := impl.RoundsFor(l, list)
	fine, six := impl.CheckRounds(l, list, make([]int64, len(list)))
	wrong := one != impl.OK && (len(hoists) > 0 || tries != 0) || two != impl.OK && len(turn) > 0 || three != impl.OK && len(most) > 0
	if wrong || four != impl.OK && buy != 0 || five != impl.OK && (len(rounds) > 0 || count != 0) || six != impl.OK && fine {
		return results("results beside an error")
	}
	return results(one, two, three, four, five, six)
}
