package tests

import (
	"fmt"
	"math"
	"slices"
	"testing"

	"loop.example/g01299/impl"
)

func TestPromise10MostAtOnce(t *testing.T) {
	lockers := someLockers(90)
	lengths := map[int]int{}
	for k, list := range someLists(500) {
		l := lockers[k%len(lockers)]
		most, code := impl.MostAtOnce(l, list)
		same(t, fmt.Sprint(toldLockerText(l), list), results(most, code), toldMostAtOnce(l, list), impl.OK)
		lengths[len(most)]++
	}
	if len(lengths) != 7 {
		t.Errorf("how many go together: %v", lengths)
	}
	tests := []struct {
		l    string
		list []impl.Meaning
		want []int64
	}{
		{"-", nil, nil},
		{"-", []impl.Meaning{{0}, {1}}, nil},
		{"0x1 1x1", []impl.Meaning{{0}, {0}, {1}}, []int64{0, 2}},
		{"1x2 2x1 s1x1", []impl.Meaning{{1, 1}, {2, 2}}, []int64{0, 1}},
		{"0x2 1x2", []impl.Meaning{{0, 0, 1, 1}, {0, 1}, {0}, {1}}, []int64{1, 2, 3}},
		{"0x2", []impl.Meaning{{0, 0}, {0}, {0}}, []int64{1, 2}},
		{"0x1", repeatedMeanings(impl.Meaning{0}, 6), []int64{0}},
		{"0x3", repeatedMeanings(impl.Meaning{0}, 6), []int64{0, 1, 2}},
		{"0x1 1x1 2x1", []impl.Meaning{{0, 1}, {1, 2}, {2, 0}, {0}, {1}, {2}}, []int64{3, 4, 5}},
		{"0x1 1x1 2x1", []impl.Meaning{{0}, {0, 1}, {1}, {1, 2}, {2}, {0, 2}}, []int64{0, 2, 4}},
		{"0x1 1x1", []impl.Meaning{{2}, {1}, {2}, {0}, {2}}, []int64{1, 3}},
		{"0x1 1x1 2x1 3x1", []impl.Meaning{{0, 1}, {0, 2}, {2, 3}, {1, 3}}, []int64{0, 2}},
	}
	for _, test := range tests {
		same(t, fmt.Sprint(test.l, test.list), results(impl.MostAtOnce(locker(test.l), test.list)), test.want, impl.OK)
	}
}

func TestPromise10FewestToBuy(t *testing.T) {
	lockers := someLockers(90)
	amounts := map[int64]int{}
	for k, list := range someLists(1500) {
		l := lockers[k%len(lockers)]
		fewest, code := impl.FewestToBuy(l, list)
		same(t, fmt.Sprint(toldLockerText(l), list), results(fewest, code), toldFewest(l, list), impl.OK)
		amounts[fewest]++
	}
	if len(amounts) < 12 {
		t.Errorf("how much is to buy: %v", amounts)
	}
	full, _ := impl.EvenLocker(20, 40, 4)
	nearly := full
	nearly.Flags[1] = 0
	tests := []struct {
		l    impl.Locker
		list []impl.Meaning
		want int64
	}{
		{impl.Locker{}, nil, 0},
		{impl.Locker{}, []impl.Meaning{{0}}, 1},
		{impl.Locker{}, []impl.Meaning{{0, 0}}, 2},
		{impl.Locker{}, []impl.Meaning{{0, 0, gap, 0, 0}}, 4},
		{locker("s1x20 s2x20 s3x20 s4x20"), []impl.Meaning{eight(0)}, 1},
		{locker("0x1"), []impl.Meaning{eight(0)}, 7},
		{locker("0x8"), []impl.Meaning{eight(0)}, 0},
		{locker("s2x20"), []impl.Meaning{eight(0)}, 2},
		{locker("s4x20"), []impl.Meaning{eight(0)}, 4},
		{locker("s1x1"), []impl.Meaning{{0}, {1}}, 2},
		{locker("0x2 s1x1"), []impl.Meaning{{0}, {1, 1}}, 1},
		{locker("1x2 2x1 s1x1"), []impl.Meaning{{1, 1}, {2, 2}}, 0},
		{locker("1x2 2x1 s1x1"), []impl.Meaning{{1, 1}, {2, 2}, {1}}, 1},
		{full, repeatedMeanings(eight(1), 6), 0},
		{nearly, repeatedMeanings(eight(1), 6), 6},
		// More than MaxStock of a kind is there then: of 48 flags there are 20, or none.
		{locker("1x20"), repeatedMeanings(eight(1), 6), 28},
		{impl.Locker{}, repeatedMeanings(eight(1), 6), 48},
		{locker("0x20"), repeatedMeanings(eight(1), 6), 48},
		{locker("1x20 s1x20"), repeatedMeanings(eight(1), 6), 8},
		{locker("1x20 s4x20"), repeatedMeanings(eight(1), 6), 8},
		{locker("1x3 s4x20"), repeatedMeanings(eight(1), 6), 25},
		{locker("1x20 s4x20"), repeatedMeanings(impl.Meaning{1, 1, 1, 1, 1}, 6), 4},
	}
	for _, test := range tests {
		same(t, fmt.Sprint(toldLockerText(test.l), test.list), results(impl.FewestToBuy(test.l, test.list)), test.want, impl.OK)
	}
}

// TestPromise10BoughtIsEnough buys pieces in all ways: with as many as told all can be flown at once, with fewer they cannot.
func TestPromise10BoughtIsEnough(t *testing.T) {
	lockers, bought := someLockers(60), 0
	for k, list := range someLists(300) {
		l := lockers[k%len(lockers)]
		fewest, _ := impl.FewestToBuy(l, list)
		if fewest > 2 {
			continue
		}
		bought++
		enough := []impl.Locker{l}
		for n := range fewest + 1 {
			flies := false
			var more []impl.Locker
			for _, with := range enough {
				_, _, code := impl.RoundsFor(with, list)
				rounds, count, _ := impl.RoundsFor(with, list)
				flies = flies || code == impl.OK && count <= 1 && len(rounds) == len(list)
				for i := range 8 {
					one := with
					if i < 4 {
						one.Flags[[]int{0, 1, 2, 39}[i]]++
					} else {
						one.Subs[i-4]++
					}
					if toldValidLocker(one) {
						more = append(more, one)
					}
				}
			}
			enough = more
			same(t, fmt.Sprint(toldLockerText(l), list, " with ", n, " more"), results(flies), n == fewest)
		}
	}
	if bought < 50 {
		t.Errorf("only %d lists need few", bought)
	}
}

// TestPromise10AllAtOnceAgree holds what goes together against the search for hoists.
func TestPromise10AllAtOnceAgree(t *testing.T) {
	lockers := someLockers(300)
	for k, list := range someLists(2100) {
		l := lockers[k%len(lockers)]
		_, _, code := impl.HoistsFrom(l, list, 20000)
		if code == impl.ErrBudget {
			continue
		}
		name := fmt.Sprint(toldLockerText(l), list)
		most, _ := impl.MostAtOnce(l, list)
		fewest, _ := impl.FewestToBuy(l, list)
		one, _ := impl.CheckRounds(l, list, make([]int64, len(list)))
		same(t, name, results(len(most) == len(list), fewest == 0, one), code == impl.OK, code == impl.OK, code == impl.OK)
	}
}

func TestPromise10RoundsFor(t *testing.T) {
	lockers := someLockers(300)
	parted, counts := 0, map[int64]int{}
	for k, list := range someLists(1500) {
		l := lockers[k%len(lockers)]
		want, wantCount, wantCode := toldRounds(l, list)
		rounds, count, code := impl.RoundsFor(l, list)
		name := fmt.Sprint(toldLockerText(l), list)
		same(t, name, results(rounds, count, code), want, wantCount, wantCode)
		if code != impl.OK {
			continue
		}
		parted++
		counts[count]++
		same(t, name, results(impl.CheckRounds(l, list, rounds)), true, impl.OK)
	}
	if parted < 200 || len(counts) < 4 {
		t.Errorf("%d lists are parted, into so many rounds: %v", parted, counts)
	}
}

func TestPromise10WhichRounds(t *testing.T) {
	tests := []struct {
		l     string
		list  []impl.Meaning
		want  []int64
		count int64
	}{
		{"-", nil, nil, 0},
		{"0x1", []impl.Meaning{{0}}, []int64{0}, 1},
		{"0x1", repeatedMeanings(impl.Meaning{0}, 6), []int64{0, 1, 2, 3, 4, 5}, 6},
		{"0x2", repeatedMeanings(impl.Meaning{0}, 6), []int64{0, 0, 1, 1, 2, 2}, 3},
		{"0x6", repeatedMeanings(impl.Meaning{0}, 6), []int64{0, 0, 0, 0, 0, 0}, 1},
		{"0x1 1x1", []impl.Meaning{{0}, {0}, {1}, {1}, {0, 1}, {1}}, []int64{0, 1, 0, 1, 2, 3}, 4},
		{"1x2 2x1 s1x1", []impl.Meaning{{1, 1}, {2, 2}, {1}}, []int64{0, 0, 1}, 2},
		{"0x2 1x1", []impl.Meaning{{0, 0}, {0, 1}, {0}, {1}}, []int64{0, 1, 1, 0}, 2},
	}
	for _, test := range tests {
		name := fmt.Sprint(test.l, test.list)
		same(t, name, results(impl.RoundsFor(locker(test.l), test.list)), test.want, test.count, impl.OK)
		same(t, name, results(impl.CheckRounds(locker(test.l), test.list, test.want)), true, impl.OK)
	}
	// One that does not go alone, in all places.
	for at := range 6 {
		list := slices.Insert(repeatedMeanings(impl.Meaning{0}, 5), at, impl.Meaning{1, 1})
		for _, l := range []string{"0x1 1x1", "0x5 1x1", "0x20 s1x20", "0x1 1x1 s2x1"} {
			same(t, fmt.Sprint(l, list), results(impl.RoundsFor(locker(l), list)), []int64(nil), 0, impl.ErrNotFound)
		}
	}
}

func TestPromise10CheckRounds(t *testing.T) {
	lockers := someLockers(200)
	seed := numbers(37)
	accepted, refused := 0, 0
	for k, list := range someLists(1400) {
		l := lockers[k%len(lockers)]
		for range 3 {
			rounds := make([]int64, len(list))
			for i := range rounds {
				rounds[i] = int64(seed.below(len(list)+2) - 1 + seed.below(2))
				if seed.below(4) > 0 {
					rounds[i] = int64(seed.below(len(list)))
				}
			}
			want := toldCheck(l, list, rounds)
			same(t, fmt.Sprint(toldLockerText(l), list, rounds), results(impl.CheckRounds(l, list, rounds)), want, impl.OK)
			if want {
				accepted++
			} else {
				refused++
			}
		}
	}
	if accepted < 200 || refused < 200 {
		t.Errorf("%d are accepted, %d are not", accepted, refused)
	}
	three := []impl.Meaning{{0}, {1}, {0}}
	tests := []struct {
		l      string
		list   []impl.Meaning
		rounds []int64
		want   bool
	}{
		{"0x1 1x1", three, []int64{0, 0, 1}, true}, {"0x1 1x1", three, []int64{2, 0, 1}, true}, {"0x1 1x1", three, []int64{1, 1, 0}, true}, {"0x1 1x1", three, []int64{0, 2, 2}, true}, {"0x1 1x1", three, []int64{2, 2, 0}, true},
		{"0x1 1x1", three, []int64{0, 1, 0}, false}, {"0x1 1x1", three, []int64{0, 0, 0}, false}, {"0x1 1x1", three, []int64{2, 0, 2}, false}, {"0x2 1x1", three, []int64{2, 2, 2}, true},
		{"0x1", three, []int64{0, 1, 2}, false}, {"1x1", three, []int64{0, 1, 2}, false},
		{"0x1 1x1", three, []int64{0, 1, -1}, false}, {"0x1 1x1", three, []int64{-1, 1, 0}, false}, {"0x1 1x1", three, []int64{0, 1, 3}, false}, {"0x1 1x1", three, []int64{3, 1, 0}, false}, {"0x1 1x1", three, []int64{0, 1, math.MaxInt64}, false}, {"0x1 1x1", three, []int64{math.MinInt64, 1, 0}, false},
		{"0x1 1x1", three, nil, false}, {"0x1 1x1", three, []int64{0, 0}, false}, {"0x1 1x1", three, []int64{0, 0, 1, 2}, false}, {"0x1 1x1", three, []int64{0, 0, 1, 0}, false}, {"0x1 1x1", three, make([]int64, 999000), false},
		{"-", nil, nil, true}, {"-", nil, []int64{0}, false}, {"-", nil, []int64{-1}, false},
		{"0x1", []impl.Meaning{{0}}, []int64{0}, true}, {"0x1", []impl.Meaning{{0}}, []int64{1}, false}, {"0x1", []impl.Meaning{{0}}, []int64{-1}, false}, {"-", []impl.Meaning{{0}}, []int64{0}, false},
		{"1x2 2x1 s1x1", []impl.Meaning{{1, 1}, {2, 2}}, []int64{0, 0}, true}, {"1x2 2x1 s1x1", []impl.Meaning{{1, 1}, {2, 2}}, []int64{1, 1}, true}, {"1x1 2x1 s1x1", []impl.Meaning{{1, 1}, {2, 2}}, []int64{0, 0}, false},
		{"0x6", repeatedMeanings(impl.Meaning{0}, 6), []int64{5, 5, 5, 5, 5, 5}, true}, {"0x6", repeatedMeanings(impl.Meaning{0}, 6), []int64{5, 5, 5, 6, 5, 5}, false}, {"0x5", repeatedMeanings(impl.Meaning{0}, 6), []int64{5, 5, 5, 5, 5, 5}, false},
	}
	for _, test := range tests {
		same(t, fmt.Sprint(test.l, test.list, test.rounds[:min(len(test.rounds), 9)]), results(impl.CheckRounds(locker(test.l), test.list, test.rounds)), test.want, impl.OK)
	}
}
