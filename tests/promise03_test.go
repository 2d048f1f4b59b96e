package tests

import (
	"slices"
	"testing"

	"loop.example/g01299/impl"
)

// toldDistinct reports whether the flags of a set with the given indices are as far apart as told.
func toldDistinct(set []impl.Flag, list []int64, least int64) bool {
	for n, i := range list {
		for _, j := range list[:n] {
			if toldApart(set[i], set[j]) < least {
				return false
			}
		}
	}
	return true
}

// toldMost goes through all lists of indices, and keeps the longest one, of several the one that comes first.
func toldMost(set []impl.Flag, least int64) []int64 {
	var best []int64
	for mask := range 1 << len(set) {
		var list []int64
		for i := range set {
			if mask>>i&1 == 1 {
				list = append(list, int64(i))
			}
		}
		better := len(list) > len(best) || len(list) == len(best) && slices.Compare(list, best) < 0
		if better && toldDistinct(set, list, least) {
			best = list
		}
	}
	return best
}

func toldChoice(set []impl.Flag, least int64) []int64 {
	var list []int64
	for i := range set {
		if next := append(slices.Clone(list), int64(i)); toldDistinct(set, next, least) {
			list = next
		}
	}
	return list
}

func everyIndex(set []impl.Flag) []int64 {
	list := make([]int64, len(set))
	for i := range list {
		list[i] = int64(i)
	}
	return list
}

// manySets returns sets of up to so many flags, with flags that are equal, that look alike, and that are far apart.
func manySets(largest int) [][]impl.Flag {
	seed := numbers(5)
	var list [][]impl.Flag
	for size := range largest + 1 {
		for colours := 2; colours <= 6; colours++ {
			list = append(list, blockFlags(&seed, size, colours))
		}
		list = append(list, someFlags(size), make([]impl.Flag, size))
	}
	return list
}

func TestPromise3Chosen(t *testing.T) {
	for _, set := range append(manySets(12), manySets(40)...) {
		for least := int64(0); least <= 6; least++ {
			chosen, code := impl.ChooseDistinct(set, least)
			same(t, "chosen", results(chosen, code), toldChoice(set, least), impl.OK)
			if !toldDistinct(set, chosen, least) {
				t.Errorf("not distinct: %v of %d, least %d", chosen, len(set), least)
			}
			var picked []impl.Flag
			for _, i := range chosen {
				picked = append(picked, set[i])
			}
			are, code := impl.AreDistinct(picked, least)
			same(t, "what is chosen is distinct", results(are, code), true, impl.OK)
		}
	}
}

func TestPromise3Most(t *testing.T) {
	for _, set := range manySets(9) {
		for least := int64(0); least <= 6; least++ {
			most, code := impl.MostDistinct(set, least)
			same(t, "most", results(most, code), toldMost(set, least), impl.OK)
		}
	}
}

func TestPromise3NoChoiceHasMore(t *testing.T) {
	more := false
	for _, set := range manySets(12) {
		for least := int64(0); least <= 6; least++ {
			chosen, _ := impl.ChooseDistinct(set, least)
			most, code := impl.MostDistinct(set, least)
			if code != impl.OK || len(chosen) > len(most) || !toldDistinct(set, most, least) || !slices.IsSorted(most) {
				t.Errorf("%d flags, least %d: chosen %v, most %v, code %d", len(set), least, chosen, most, code)
			}
			more = more || len(most) > len(chosen)
		}
	}
	if !more {
		t.Error("no set has more flags than are chosen in order")
	}
}

func TestPromise3MostOfTwelve(t *testing.T) {
	seed := numbers(9)
	for _, set := range [][]impl.Flag{blockFlags(&seed, 12, 2), blockFlags(&seed, 12, 3), someFlags(12)} {
		for _, least := range []int64{0, 2, 3, 4, 6} {
			most, code := impl.MostDistinct(set, least)
			same(t, "most of 12", results(most, code), toldMost(set, least), impl.OK)
		}
	}
}

func TestPromise3Distinct(t *testing.T) {
	for _, set := range manySets(40) {
		for least := int64(0); least <= 6; least++ {
			are, code := impl.AreDistinct(set, least)
			same(t, "distinct", results(are, code), toldDistinct(set, everyIndex(set), least), impl.OK)
		}
	}
	set := []impl.Flag{plain(0), plain(1), plain(2), plain(3), plain(4), plain(5)}
	are, code := impl.AreDistinct(set, 6)
	same(t, "plain flags", results(are, code), true, impl.OK)
	are, code = impl.AreDistinct(append(set, plain(5)), 1)
	same(t, "the last two are equal", results(are, code), false, impl.OK)
	are, code = impl.AreDistinct(append(set, plain(5)), 0)
	same(t, "the last two are equal, least 0", results(are, code), true, impl.OK)
	are, code = impl.AreDistinct([]impl.Flag{flagOfBlocks([6]uint8{0, 0, 0, 1, 1, 1}), plain(0), plain(1)}, 4)
	same(t, "the first one is too near", results(are, code), false, impl.OK)
}

func TestPromise3Nearest(t *testing.T) {
	for _, set := range manySets(40) {
		i, j, least, code := impl.NearestPair(set)
		if len(set) < 2 {
			same(t, "no pair", results(i, j, least, code), 0, 0, 0, impl.ErrNotFound)
			continue
		}
		wantI, wantJ, wantLeast := 0, 0, int64(7)
		for a := range set {
			for b := a + 1; b < len(set); b++ {
				if apart := toldApart(set[a], set[b]); apart < wantLeast {
					wantI, wantJ, wantLeast = a, b, apart
				}
			}
		}
		same(t, "nearest", results(i, j, least, code), wantI, wantJ, wantLeast, impl.OK)
		are, code := impl.AreDistinct(set, least)
		same(t, "as far apart as the nearest pair", results(are, code), true, impl.OK)
		if least < 6 {
			are, code = impl.AreDistinct(set, least+1)
			same(t, "farther apart than the nearest pair", results(are, code), false, impl.OK)
		}
	}
	same4 := func(name string, set []impl.Flag, i, j, least int64) {
		a, b, d, code := impl.NearestPair(set)
		same(t, name, results(a, b, d, code), i, j, least, impl.OK)
	}
	same4("far apart", []impl.Flag{plain(0), plain(1), plain(2)}, 0, 1, 6)
	same4("the last two", []impl.Flag{plain(0), plain(1), plain(2), plain(2)}, 2, 3, 0)
	same4("several pairs, by the first one", []impl.Flag{plain(0), plain(1), plain(1), plain(0)}, 0, 3, 0)
	same4("several pairs, by the second one", []impl.Flag{plain(0), plain(1), plain(0), plain(0)}, 0, 2, 0)
}

func TestPromise3FirstOfSeveral(t *testing.T) {
	half := flagOfBlocks([6]uint8{0, 0, 0, 1, 1, 1})
	tests := []struct {
		name         string
		set          []impl.Flag
		least        int64
		chosen, most []int64
	}{
		{"none", nil, 6, nil, nil},
		{"one", []impl.Flag{plain(3)}, 6, []int64{0}, []int64{0}},
		{"two that look alike", []impl.Flag{plain(3), plain(3)}, 1, []int64{0}, []int64{0}},
		{"two that look alike, least 0", []impl.Flag{plain(3), plain(3)}, 0, []int64{0, 1}, []int64{0, 1}},
		{"two lists", []impl.Flag{plain(0), plain(0), plain(1), plain(1)}, 6, []int64{0, 2}, []int64{0, 2}},
		{"two lists, crossed", []impl.Flag{plain(0), plain(1), plain(1), plain(0)}, 1, []int64{0, 1}, []int64{0, 1}},
		{"the first one stands in the way", []impl.Flag{half, plain(0), plain(1)}, 4, []int64{0}, []int64{1, 2}},
		{"the first one is between, but far enough", []impl.Flag{half, plain(0), plain(1)}, 3, []int64{0, 1, 2}, []int64{0, 1, 2}},
		{"the one in the middle stands in the way", []impl.Flag{plain(2), half, plain(0), plain(1), plain(0)}, 4, []int64{0, 1}, []int64{0, 2, 3}},
		{"twelve that are equal", make([]impl.Flag, 12), 1, []int64{0}, []int64{0}},
	}
	for _, test := range tests {
		chosen, code := impl.ChooseDistinct(test.set, test.least)
		same(t, test.name+": chosen", results(chosen, code), test.chosen, impl.OK)
		most, code := impl.MostDistinct(test.set, test.least)
		same(t, test.name+": most", results(most, code), test.most, impl.OK)
	}
	all := make([]impl.Flag, 40)
	chosen, code := impl.ChooseDistinct(all, 0)
	same(t, "forty, least 0", results(chosen, code), everyIndex(all), impl.OK)
	most, code := impl.MostDistinct(all[:12], 0)
	same(t, "twelve, least 0", results(most, code), everyIndex(all[:12]), impl.OK)
}
