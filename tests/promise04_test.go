package tests

import (
	"slices"
	"testing"

	"loop.example/g01299/impl"
)

// manyHoists returns all valid hoists of up to 5 numbers of a few kinds, and some longer ones.
func manyHoists() []impl.Hoist {
	list := someHoists(400)
	for length := 1; length <= 5; length++ {
		for h := range everyList([]int8{impl.Break, -4, -3, -2, -1, 0, 39}, length) {
			if _, valid := toldMeaning(h); valid {
				list = append(list, h)
			}
		}
	}
	return list
}

func TestPromise4Example(t *testing.T) {
	h := impl.Hoist{3, 5, -1, -2}
	same(t, "read", results(impl.ReadHoist("3 5 s1 s2")), h, impl.OK)
	same(t, "meaning", results(impl.MeaningOf(h)), impl.Meaning{3, 5, 3, 5}, impl.OK)
	same(t, "spoiled", results(impl.SpoiledBy(h, 0, 7)), []int64{0, 2}, impl.OK)
	same(t, "meaning if", results(impl.MeaningIf(h, 0, 7)), impl.Meaning{7, 5, 7, 5}, impl.OK)
}

func TestPromise4Meanings(t *testing.T) {
	const gap = impl.Break
	tests := []struct {
		h    impl.Hoist
		want impl.Meaning
	}{
		{impl.Hoist{0}, impl.Meaning{0}},
		{impl.Hoist{39}, impl.Meaning{39}},
		{impl.Hoist{1, 2, 3, 4, 5, 6, 7, 8}, impl.Meaning{1, 2, 3, 4, 5, 6, 7, 8}},
		{impl.Hoist{1, 2, 3, 4, -1, -2, -3, -4}, impl.Meaning{1, 2, 3, 4, 1, 2, 3, 4}},
		{impl.Hoist{1, 2, 3, 4, -4, -3, -2, -1}, impl.Meaning{1, 2, 3, 4, 4, 3, 2, 1}},
		{impl.Hoist{9, -1, -2}, impl.Meaning{9, 9, 9}},
		{impl.Hoist{9, -1, 8, -2, -3, -4}, impl.Meaning{9, 9, 8, 9, 8, 9}},
		{impl.Hoist{9, -1, -2, -3, -4, -4, -4, -1}, impl.Meaning{9, 9, 9, 9, 9, 9, 9, 9}},
		{impl.Hoist{1, 2, -2, -3, 4, -4}, impl.Meaning{1, 2, 2, 2, 4, 2}},
		{impl.Hoist{1, -1, gap, 2, -1}, impl.Meaning{1, 1, gap, 2, 2}},
		{impl.Hoist{1, 2, gap, 3, 4, -2, -3}, impl.Meaning{1, 2, gap, 3, 4, 4, 4}},
		{impl.Hoist{1, gap, 2, gap, 3, -1, -2}, impl.Meaning{1, gap, 2, gap, 3, 3, 3}},
	}
	for _, test := range tests {
		same(t, toldText(test.h), results(impl.MeaningOf(test.h)), test.want, impl.OK)
		same(t, toldText(test.h), results(impl.WithoutSubs(test.h)), impl.Hoist(test.want), impl.OK)
	}
}

func TestPromise4SubsChangeNoMeaning(t *testing.T) {
	for _, h := range manyHoists() {
		want, _ := toldMeaning(h)
		m, code := impl.MeaningOf(h)
		same(t, toldText(h), results(m, code), want, impl.OK)
		plain, code := impl.WithoutSubs(h)
		same(t, toldText(h), results(plain, code), impl.Hoist(want), impl.OK)
		same(t, toldText(h), results(impl.ValidMeaning(m)), true)
		same(t, toldText(h), results(impl.MeaningOf(plain)), want, impl.OK)
		same(t, toldText(h), results(impl.AlikeHoists(h, plain)), true, impl.OK)
		same(t, toldText(h), results(impl.AlikeHoists(plain, h)), true, impl.OK)
	}
}

func TestPromise4Alike(t *testing.T) {
	list := append(someHoists(60), impl.Hoist{0}, impl.Hoist{0, 0}, impl.Hoist{0, -1}, impl.Hoist{0, -1, 0}, impl.Hoist{0, -1, -2}, impl.Hoist{0, impl.Break, 0})
	alike := 0
	for i, a := range list {
		for j, b := range list {
			one, _ := toldMeaning(a)
			two, _ := toldMeaning(b)
			want := slices.Equal(one, two)
			same(t, toldText(a)+", "+toldText(b), results(impl.AlikeHoists(a, b)), want, impl.OK)
			if want && i != j {
				alike++
			}
		}
	}
	if alike == 0 {
		t.Error("no two hoists mean the same")
	}
}

func TestPromise4Groups(t *testing.T) {
	const gap = impl.Break
	tests := []struct {
		m    impl.Meaning
		want []impl.Meaning
	}{
		{impl.Meaning{0}, []impl.Meaning{{0}}},
		{impl.Meaning{1, 2, gap, 1}, []impl.Meaning{{1, 2}, {1}}},
		{impl.Meaning{1, gap, 2, gap, 3, gap, 39, 0}, []impl.Meaning{{1}, {2}, {3}, {39, 0}}},
		{impl.Meaning{1, 2, 3, 4, 5, 6, 7, 8}, []impl.Meaning{{1, 2, 3, 4, 5, 6, 7, 8}}},
		{impl.Meaning{1, 2, 3, 4, 5, 6, gap, 8}, []impl.Meaning{{1, 2, 3, 4, 5, 6}, {8}}},
	}
	for _, test := range tests {
		same(t, "groups", results(impl.GroupsOf(test.m)), test.want, impl.OK)
	}
	for _, h := range manyHoists() {
		m, _ := toldMeaning(h)
		groups, code := impl.GroupsOf(m)
		var joined impl.Meaning
		for i, group := range groups {
			if i > 0 {
				joined = append(joined, gap)
			}
			if len(group) == 0 || slices.Contains(group, gap) {
				t.Errorf("%v: the group %v", m, group)
			}
			joined = append(joined, group...)
		}
		same(t, "groups, joined", results(joined, code), m, impl.OK)
	}
}

func TestPromise4Counts(t *testing.T) {
	for _, h := range manyHoists() {
		var flags [40]int64
		var subs [4]int64
		for number, count := range toldCounts(h) {
			if number >= 0 {
				flags[number] = count
			} else {
				subs[-1-number] = count
			}
		}
		same(t, toldText(h), results(impl.FlagsIn(h)), flags, impl.OK)
		same(t, toldText(h), results(impl.SubsIn(h)), subs, impl.OK)
		same(t, toldText(h), results(impl.SetsFor(h)), toldSets(h), impl.OK)
	}
}

func TestPromise4Sets(t *testing.T) {
	const gap = impl.Break
	tests := []struct {
		h    impl.Hoist
		want int64
	}{
		{impl.Hoist{5}, 1},
		{impl.Hoist{1, 2, 3, 4, -1, -2, -3, -4}, 1},
		{impl.Hoist{1, -1, gap, 2, -1}, 2},
		{impl.Hoist{1, -1, gap, 1, -1, gap, 1, -1}, 3},
		{impl.Hoist{1, gap, 1, gap, 2, gap, 2, -1}, 2},
		{impl.Hoist{1, gap, 2, gap, 3, gap, 4, 5}, 1},
		{impl.Hoist{7, 7, 7, 7, 7, 7, 7, 7}, 8},
		{impl.Hoist{7, -1, -1, -1, -1, -1, -1, -1}, 7},
	}
	for _, test := range tests {
		same(t, toldText(test.h), results(impl.SetsFor(test.h)), test.want, impl.OK)
	}
}

func TestPromise4SpoiledPlaces(t *testing.T) {
	const gap = impl.Break
	tests := []struct {
		h        impl.Hoist
		at, kind int64
		read     impl.Meaning
		spoiled  []int64
	}{
		{impl.Hoist{3, 5, -1, -2}, 1, 9, impl.Meaning{3, 9, 3, 9}, []int64{1, 3}},
		{impl.Hoist{3, 5, -1, -2}, 0, 3, impl.Meaning{3, 5, 3, 5}, nil},
		{impl.Hoist{3, 5, -1, -2}, 0, 5, impl.Meaning{5, 5, 5, 5}, []int64{0, 2}},
		{impl.Hoist{3, -1, -2}, 0, 0, impl.Meaning{0, 0, 0}, []int64{0, 1, 2}},
		{impl.Hoist{3, 3, 3}, 0, 39, impl.Meaning{39, 3, 3}, []int64{0}},
		{impl.Hoist{3, -1, 4, -2, -3, -4}, 0, 1, impl.Meaning{1, 1, 4, 1, 4, 1}, []int64{0, 1, 3, 5}},
		{impl.Hoist{3, -1, 4, -2, -3, -4}, 2, 3, impl.Meaning{3, 3, 3, 3, 3, 3}, []int64{2, 4}},
		{impl.Hoist{3, -1, gap, 3, -1}, 0, 8, impl.Meaning{8, 8, gap, 3, 3}, []int64{0, 1}},
		{impl.Hoist{3, -1, gap, 3, -1}, 3, 8, impl.Meaning{3, 3, gap, 8, 8}, []int64{3, 4}},
		{impl.Hoist{1, 2, 3, 4, 5, 6, 7, 8}, 7, 0, impl.Meaning{1, 2, 3, 4, 5, 6, 7, 0}, []int64{7}},
	}
	for _, test := range tests {
		same(t, toldText(test.h), results(impl.MeaningIf(test.h, test.at, test.kind)), test.read, impl.OK)
		same(t, toldText(test.h), results(impl.SpoiledBy(test.h, test.at, test.kind)), test.spoiled, impl.OK)
	}
}

func TestPromise4SpoilsItsOwnAndThoseThatRepeatIt(t *testing.T) {
	for _, h := range manyHoists() {
		meant, _ := toldMeaning(h)
		for at, number := range h {
			if number < 0 {
				continue
			}
			for _, kind := range []int8{0, 1, 2, 38, 39} {
				read := slices.Clone(meant)
				var spoiled []int64
				for i := range h {
					if toldRoot(h, i) == at {
						read[i] = kind
						if kind != number {
							spoiled = append(spoiled, int64(i))
						}
					}
				}
				same(t, toldText(h), results(impl.MeaningIf(h, int64(at), int64(kind))), read, impl.OK)
				same(t, toldText(h), results(impl.SpoiledBy(h, int64(at), int64(kind))), spoiled, impl.OK)
			}
		}
	}
}

func TestPromise4FaultErrors(t *testing.T) {
	const gap = impl.Break
	const ok, invalid, outOfRange, state = impl.OK, impl.ErrInvalid, impl.ErrRange, impl.ErrState
	h := impl.Hoist{1, -1, gap, 2}
	tests := []struct {
		h        impl.Hoist
		at, kind int64
		want     int64
	}{
		{h, 0, 0, ok}, {h, 0, 39, ok}, {h, 3, 39, ok}, {h, 0, -1, outOfRange}, {h, 0, 40, outOfRange}, {h, 0, gap, outOfRange}, {h, 0, 256, outOfRange},
		{h, -1, 0, outOfRange}, {h, 4, 0, outOfRange}, {h, 8, 0, outOfRange}, {h, 4, 40, outOfRange},
		{h, 1, 0, state}, {h, 2, 0, state}, {h, 1, 39, state}, {h, 1, -1, outOfRange}, {h, 1, 40, outOfRange}, {h, 2, 40, outOfRange},
		{impl.Hoist{1, -2}, 0, 0, invalid}, {impl.Hoist{1, -2}, 1, 0, invalid}, {impl.Hoist{1, -2}, 2, 0, invalid}, {impl.Hoist{1, -2}, 0, 40, invalid},
		{impl.Hoist{gap}, 0, 0, invalid}, {nil, 0, 0, invalid}, {nil, -1, -1, invalid}, {make(impl.Hoist, 9), 0, 0, invalid}, {impl.Hoist{40}, 0, 0, invalid},
	}
	for _, test := range tests {
		read, one := impl.MeaningIf(test.h, test.at, test.kind)
		spoiled, two := impl.SpoiledBy(test.h, test.at, test.kind)
		same(t, "codes", results(one, two), test.want, test.want)
		if test.want != ok {
			same(t, "beside a code", results(read, spoiled), impl.Meaning(nil), []int64(nil))
		}
	}
	for _, h := range someHoists(40) {
		for _, at := range hoistExtremes {
			for _, kind := range hoistExtremes {
				want := int64(ok)
				if at < 0 || at >= int64(len(h)) || kind < 0 || kind > 39 {
					want = outOfRange
				} else if h[at] < 0 {
					want = state
				}
				_, one := impl.MeaningIf(h, at, kind)
				_, two := impl.SpoiledBy(h, at, kind)
				same(t, "codes", results(one, two), want, want)
			}
		}
	}
}

func TestPromise4Invalid(t *testing.T) {
	good := impl.Hoist{1, -1}
	for _, h := range badHoists() {
		same(t, "meaning", results(impl.MeaningOf(h)), impl.Meaning(nil), impl.ErrInvalid)
		same(t, "flags", results(impl.FlagsIn(h)), [40]int64{}, impl.ErrInvalid)
		same(t, "substitutes", results(impl.SubsIn(h)), [4]int64{}, impl.ErrInvalid)
		same(t, "sets", results(impl.SetsFor(h)), 0, impl.ErrInvalid)
		same(t, "without", results(impl.WithoutSubs(h)), impl.Hoist(nil), impl.ErrInvalid)
		same(t, "alike, the first one", results(impl.AlikeHoists(h, good)), false, impl.ErrInvalid)
		same(t, "alike, the second one", results(impl.AlikeHoists(good, h)), false, impl.ErrInvalid)
		same(t, "alike, itself", results(impl.AlikeHoists(h, h)), false, impl.ErrInvalid)
	}
	for _, m := range badMeanings() {
		same(t, "groups", results(impl.GroupsOf(m)), []impl.Meaning(nil), impl.ErrInvalid)
	}
}
