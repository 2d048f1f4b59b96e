package tests

import (
	"fmt"
	"slices"
	"testing"

	"loop.example/g01299/impl"
)

// manyMeanings returns meanings of up to 5 numbers of three kinds, in which no kind comes before a lesser one of them has, and some longer ones.
func manyMeanings() []impl.Meaning {
	const gap = impl.Break
	list := []impl.Meaning{
		{1, 1, 2, 2, 1, 2}, {1, 2, 1, 2, 1, 2}, {39, 39, 39, 39, 39, 39}, {5, 4, 3, 2, 1, 0}, {1, 2, 3, 1, 2, 3, 1}, {1, 1, gap, 2, 2, gap, 1, 1},
		{7, 7, 7, gap, 7, 7, 7}, {1, 2, gap, 1, 2, gap, 1, 2}, {1, gap, 1, gap, 1, gap, 1, 1}, {0, 1, 2, 3, 3, 2, 1, 0}, {7, 7, 7, 7, 7, 7, 7, 7},
	}
	for length := 1; length <= 5; length++ {
		for h := range everyList([]int8{gap, 0, 1, 2}, length) {
			if _, valid := toldMeaning(h); valid && inOrderOfComing(h) {
				list = append(list, impl.Meaning(h))
			}
		}
	}
	return list
}

func inOrderOfComing(h impl.Hoist) bool {
	next := int8(0)
	for _, kind := range h {
		if kind > next {
			return false
		}
		if kind == next {
			next++
		}
	}
	return true
}

func TestPromise5Example(t *testing.T) {
	same(t, "two and two", results(impl.HoistFor(impl.Meaning{3, 5, 3, 5}, 1, 4)), impl.Hoist{3, 5, -1, -2}, impl.OK)
	same(t, "three", results(impl.HoistFor(impl.Meaning{3, 3, 3}, 1, 4)), impl.Hoist{3, -1, -2}, impl.OK)
	same(t, "one substitute", results(impl.LeastSets(impl.Meaning{3, 3, 3}, 1)), 2, impl.OK)
	same(t, "no substitutes", results(impl.LeastSets(impl.Meaning{3, 3, 3}, 0)), 3, impl.OK)
	same(t, "meanings, no substitutes", results(impl.CountMeanings(2, 2, 1, 0)), 2, impl.OK)
	same(t, "meanings, one substitute", results(impl.CountMeanings(2, 2, 1, 1)), 4, impl.OK)
}

func TestPromise5FirstOfSeveral(t *testing.T) {
	const gap = impl.Break
	tests := []struct {
		m          impl.Meaning
		sets, subs int64
		want       impl.Hoist
	}{
		{impl.Meaning{3}, 8, 4, impl.Hoist{3}},
		{impl.Meaning{3, 3}, 1, 1, impl.Hoist{3, -1}},
		{impl.Meaning{3, 3}, 2, 1, impl.Hoist{3, -1}},
		{impl.Meaning{3, 3}, 2, 0, impl.Hoist{3, 3}},
		{impl.Meaning{3, 3, 3}, 2, 4, impl.Hoist{3, -1, -2}},
		{impl.Meaning{3, 3, 3}, 2, 1, impl.Hoist{3, -1, -1}},
		{impl.Meaning{3, 3, 3}, 3, 0, impl.Hoist{3, 3, 3}},
		{impl.Meaning{3, 3, 3, 3}, 1, 4, impl.Hoist{3, -1, -2, -3}},
		{impl.Meaning{3, 3, 3, 3}, 2, 2, impl.Hoist{3, -1, -2, -2}},
		{impl.Meaning{3, 3, 3, 3}, 2, 1, impl.Hoist{3, -1, -1, 3}},
		{impl.Meaning{0, 0, 0, 0, 0}, 1, 4, impl.Hoist{0, -1, -2, -3, -4}},
		{impl.Meaning{0, 0, 0, 0, 0, 0, 0, 0}, 8, 4, impl.Hoist{0, -1, -2, -3, -4, -4, -4, -4}},
		{impl.Meaning{0, 0, 0, 0, 0, 0, 0, 0}, 2, 4, impl.Hoist{0, -1, -2, -3, -4, -4, -3, -2}},
		{impl.Meaning{1, 1, 2, 1, 1, 2}, 1, 4, impl.Hoist{1, -1, 2, -2, -4, -3}},
		{impl.Meaning{9, 9, gap, 9, 9}, 2, 4, impl.Hoist{9, -1, gap, 9, -1}},
		{impl.Meaning{9, 9, gap, 8, 8}, 2, 4, impl.Hoist{9, -1, gap, 8, -1}},
		{impl.Meaning{9, 8, 9, gap, 7, 7}, 1, 1, nil},
		{impl.Meaning{9, 9, gap, 8, 8}, 1, 4, nil},
		{impl.Meaning{9, gap, 9}, 1, 4, nil},
		{impl.Meaning{9, gap, 9}, 2, 0, impl.Hoist{9, gap, 9}},
		{impl.Meaning{1, 1}, 1, 0, nil},
		{impl.Meaning{1, 2, 2}, 1, 1, nil},
		{impl.Meaning{1, 2, 2}, 1, 2, impl.Hoist{1, 2, -2}},
		{impl.Meaning{1, 2, 3, 4, 5, 5}, 1, 4, nil},
		{impl.Meaning{1, 2, 3, 4, 5, 5}, 2, 4, impl.Hoist{1, 2, 3, 4, 5, 5}},
		{impl.Meaning{0, 0, 0, 0, 0, 0}, 1, 4, nil},
		// In the group in the middle there is a -1, too, but the last group needs it.
		{impl.Meaning{1, 1, gap, 2, 2, gap, 1, 1}, 2, 1, impl.Hoist{1, -1, gap, 2, 2, gap, 1, -1}},
	}
	for _, test := range tests {
		name := fmt.Sprint(test.m, test.sets, test.subs)
		want := int64(impl.OK)
		if test.want == nil {
			want = impl.ErrNotFound
		}
		same(t, name, results(impl.HoistFor(test.m, test.sets, test.subs)), test.want, want)
	}
}

// TestPromise5AgainstAllHoists compares with all hoists that there are for a meaning.
func TestPromise5AgainstAllHoists(t *testing.T) {
	for _, m := range manyMeanings() {
		all := toldHoists(m)
		for subs := int64(0); subs <= 4; subs++ {
			least := int64(0)
			for sets := int64(1); sets <= 8; sets++ {
				name := fmt.Sprint(m, sets, subs)
				enough := slices.DeleteFunc(slices.Clone(all), func(h impl.Hoist) bool { return !toldWithin(h, sets, subs) })
				same(t, name, results(impl.WaysToHoist(m, sets, subs)), len(enough), impl.OK)
				if len(enough) == 0 {
					same(t, name, results(impl.HoistFor(m, sets, subs)), impl.Hoist(nil), impl.ErrNotFound)
					continue
				}
				same(t, name, results(impl.HoistFor(m, sets, subs)), enough[0], impl.OK)
				if least == 0 {
					least = sets
				}
			}
			same(t, fmt.Sprint(m, subs), results(impl.LeastSets(m, subs)), least, impl.OK)
		}
	}
}

func TestPromise5MeansItWithinTheSets(t *testing.T) {
	for _, from := range someHoists(400) {
		m, _ := toldMeaning(from)
		for subs := int64(0); subs <= 4; subs++ {
			least, code := impl.LeastSets(m, subs)
			same(t, "least sets", results(code), impl.OK)
			for sets := int64(1); sets <= 8; sets++ {
				h, code := impl.HoistFor(m, sets, subs)
				if (code == impl.OK) != (sets >= least) {
					t.Errorf("%v, %d sets, %d substitutes: code %d, but the least number is %d", m, sets, subs, code, least)
				}
				if code != impl.OK {
					continue
				}
				same(t, "meaning", results(impl.MeaningOf(h)), m, impl.OK)
				if !toldWithin(h, sets, subs) {
					t.Errorf("%v: %d sets and %d substitutes are not enough", h, sets, subs)
				}
				if toldWithin(from, sets, subs) && slices.Compare(from, h) < 0 {
					t.Errorf("%v comes before %v", from, h)
				}
			}
			if toldWithin(from, 8, subs) && least > toldSets(from) {
				t.Errorf("%v: %d sets are enough, not %d", m, toldSets(from), least)
			}
		}
	}
}

func TestPromise5LeastSets(t *testing.T) {
	const gap = impl.Break
	tests := []struct {
		m    impl.Meaning
		want [5]int64 // with 0 to 4 substitutes
	}{
		{impl.Meaning{0}, [5]int64{1, 1, 1, 1, 1}},
		{impl.Meaning{3, 3, 3}, [5]int64{3, 2, 1, 1, 1}},
		{impl.Meaning{7, 7, 7, 7, 7, 7, 7, 7}, [5]int64{8, 4, 3, 2, 2}},
		{impl.Meaning{1, 2, 3, 4, 5, 6, 7, 8}, [5]int64{1, 1, 1, 1, 1}},
		{impl.Meaning{1, 2, 3, 4, 1, 2, 3, 4}, [5]int64{2, 2, 2, 2, 1}},
		{impl.Meaning{1, 2, 3, 4, 5, 5}, [5]int64{2, 2, 2, 2, 2}},
		{impl.Meaning{1, gap, 1, gap, 1, gap, 1}, [5]int64{4, 4, 4, 4, 4}},
		{impl.Meaning{1, 1, gap, 2, 2, gap, 3, 3}, [5]int64{2, 2, 2, 2, 2}},
	}
	for _, test := range tests {
		for subs, want := range test.want {
			same(t, fmt.Sprint(test.m, subs), results(impl.LeastSets(test.m, int64(subs))), want, impl.OK)
		}
	}
}

func TestPromise5Ways(t *testing.T) {
	const gap = impl.Break
	tests := []struct {
		m                impl.Meaning
		sets, subs, want int64
	}{
		{impl.Meaning{3}, 1, 0, 1},
		{impl.Meaning{3, 3}, 1, 0, 0},
		{impl.Meaning{3, 3}, 1, 1, 1},
		{impl.Meaning{3, 3}, 2, 1, 2},
		{impl.Meaning{3, 3, 3}, 1, 4, 1},
		{impl.Meaning{3, 3, 3}, 2, 2, 5},
		{impl.Meaning{3, 3, 3}, 3, 2, 6},
		{impl.Meaning{3, 3, 3}, 8, 1, 4},
		{impl.Meaning{3, gap, 3}, 1, 4, 0},
		{impl.Meaning{3, gap, 3}, 2, 4, 1},
		{impl.Meaning{3, 3, gap, 4, 4}, 1, 4, 0},
		{impl.Meaning{3, 3, gap, 4, 4}, 2, 4, 4},
		{impl.Meaning{1, 2, 3, 4, 5, 5}, 8, 4, 1},
		{impl.Meaning{0, 0, 0, 0, 0, 0, 0, 0}, 8, 4, 15000}, // 1 * 2 * 3 * 4 * 5 * 5 * 5 * 5 choices
		{impl.Meaning{0, 0, 0, 0, 0, 0, 0, 0}, 8, 0, 1},
	}
	for _, test := range tests {
		same(t, fmt.Sprint(test.m, test.sets, test.subs), results(impl.WaysToHoist(test.m, test.sets, test.subs)), test.want, impl.OK)
	}
}

func TestPromise5Errors(t *testing.T) {
	m := impl.Meaning{1, 1}
	for _, sets := range hoistExtremes {
		for _, subs := range hoistExtremes {
			hoistCode, waysCode, leastCode := int64(impl.OK), int64(impl.OK), int64(impl.OK)
			if sets == 1 && subs == 0 {
				hoistCode = impl.ErrNotFound
			}
			if sets < 1 || sets > 8 || subs < 0 || subs > 4 {
				hoistCode, waysCode = impl.ErrRange, impl.ErrRange
			}
			if subs < 0 || subs > 4 {
				leastCode = impl.ErrRange
			}
			h, one := impl.HoistFor(m, sets, subs)
			ways, two := impl.WaysToHoist(m, sets, subs)
			least, three := impl.LeastSets(m, subs)
			same(t, fmt.Sprint("codes", sets, subs), results(one, two, three), hoistCode, waysCode, leastCode)
			same(t, fmt.Sprint("beside the codes", sets, subs), results(len(h) > 0, ways > 0, least > 0), one == impl.OK, two == impl.OK && one == impl.OK, three == impl.OK)
		}
	}
	for _, bad := range badMeanings() {
		for _, n := range []int64{-1, 0, 1, 4, 5, 8, 9} {
			same(t, "hoist", results(impl.HoistFor(bad, n, n)), impl.Hoist(nil), impl.ErrInvalid)
			same(t, "ways", results(impl.WaysToHoist(bad, n, n)), 0, impl.ErrInvalid)
			same(t, "least sets", results(impl.LeastSets(bad, n)), 0, impl.ErrInvalid)
		}
	}
}

func TestPromise5CountedAgainstAllHoists(t *testing.T) {
	most := []int64{0, 40, 9, 5, 4, 3, 3} // how many kinds, for each length
	for length := int64(1); length <= 6; length++ {
		for _, kinds := range []int64{1, 2, 3, most[length]} {
			for subs := int64(0); subs <= 4; subs++ {
				for _, sets := range []int64{1, 2, 3, 6, 8} {
					if length == 6 && kinds == 3 && sets == 6 {
						continue // as with 8, and this takes long
					}
					want := toldCount(kinds, length, sets, subs)
					same(t, fmt.Sprint("count", kinds, length, sets, subs), results(impl.CountMeanings(kinds, length, sets, subs)), want, impl.OK)
				}
			}
		}
	}
}

func TestPromise5CountedOneByOne(t *testing.T) {
	for length := 1; length <= 5; length++ {
		for subs := int64(0); subs <= 4; subs++ {
			for sets := int64(1); sets <= 3; sets++ {
				count := 0
				for m := range everyList([]int8{0, 1, 2, 3}, length) {
					if _, code := impl.HoistFor(impl.Meaning(m), sets, subs); code == impl.OK {
						count++
					}
				}
				same(t, fmt.Sprint("count", length, sets, subs), results(impl.CountMeanings(4, int64(length), sets, subs)), count, impl.OK)
			}
		}
	}
}

func TestPromise5CountedManyKinds(t *testing.T) {
	tests := []struct{ kinds, length, sets, subs, want int64 }{
		{40, 1, 1, 0, 40}, {40, 2, 1, 0, 40 * 39}, {40, 2, 2, 0, 1600}, {40, 2, 1, 1, 1600}, {40, 6, 1, 0, 40 * 39 * 38 * 37 * 36 * 35},
		{40, 6, 6, 0, 4096000000}, {40, 6, 8, 4, 4096000000}, {40, 6, 5, 0, 4096000000 - 40}, {40, 3, 2, 0, 64000 - 40}, {40, 3, 1, 1, 64000 - 40 - 40*39},
		{1, 1, 1, 0, 1}, {1, 5, 1, 4, 1}, {1, 6, 1, 4, 0}, {1, 6, 2, 4, 1}, {1, 6, 5, 0, 0}, {1, 6, 6, 0, 1}, {2, 3, 1, 0, 0}, {5, 6, 1, 0, 0}, {6, 6, 1, 0, 720},
	}
	for _, test := range tests {
		same(t, fmt.Sprint("count", test), results(impl.CountMeanings(test.kinds, test.length, test.sets, test.subs)), test.want, impl.OK)
	}
}

func TestPromise5CountErrors(t *testing.T) {
	bounds := []int64{-1 << 63, -1, 0, 1, 4, 5, 6, 7, 8, 9, 40, 41, 257, 1<<63 - 1}
	for _, kinds := range bounds {
		for _, length := range bounds {
			for _, sets := range bounds {
				for _, subs := range bounds {
					inRange := kinds >= 1 && kinds <= 40 && length >= 1 && length <= 6 && sets >= 1 && sets <= 8 && subs >= 0 && subs <= 4
					count, code := impl.CountMeanings(kinds, length, sets, subs)
					if inRange != (code == impl.OK) || !inRange && (code != impl.ErrRange || count != 0) {
						t.Errorf("kinds %d, length %d, sets %d, subs %d: %d, code %d", kinds, length, sets, subs, count, code)
					}
				}
			}
		}
	}
}
