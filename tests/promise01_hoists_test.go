package tests

import (
	"reflect"
	"slices"
	"strings"
	"testing"

	"loop.example/g01299/impl"
)

// hoistCalls returns, for some arguments, the results of all functions of chapter 2 that take hoists.
func hoistCalls(h, other impl.Hoist, at, kind int64) [][]any {
	return [][]any{
		results(impl.MeaningOf(h)),
		results(impl.AlikeHoists(h, other)),
		results(impl.FlagsIn(h)),
		results(impl.SubsIn(h)),
		results(impl.SetsFor(h)),
		results(impl.MeaningIf(h, at, kind)),
		results(impl.SpoiledBy(h, at, kind)),
		results(impl.WithoutSubs(h)),
		results(impl.ReadHoist(impl.HoistText(h))),
		results(impl.ValidHoist(h), impl.SameHoist(h, other), impl.HoistText(h), int64(impl.OK)),
	}
}

// meaningCalls returns, for some arguments, the results of all functions of chapter 2 that take meanings, or none of both.
func meaningCalls(m impl.Meaning, kinds, length, sets, subs int64) [][]any {
	return [][]any{
		results(impl.GroupsOf(m)),
		results(impl.HoistFor(m, sets, subs)),
		results(impl.LeastSets(m, subs)),
		results(impl.WaysToHoist(m, sets, subs)),
		results(impl.CountMeanings(kinds, length, sets, subs)),
		results(impl.ValidMeaning(m), int64(impl.OK)),
	}
}

func TestPromise1HoistsAllArguments(t *testing.T) {
	for i, h := range append(badHoists(), someHoists(24)...) {
		for j, at := range hoistExtremes {
			kind := hoistExtremes[(i+7*j)%len(hoistExtremes)]
			first, second := hoistCalls(h, impl.Hoist{1, -1}, at, kind), hoistCalls(slices.Clone(h), impl.Hoist{1, -1}, at, kind)
			if !reflect.DeepEqual(first, second) {
				t.Fatalf("results differ: %v, %v", first, second)
			}
			zeroIfError(t, first)
			zeroIfError(t, hoistCalls(impl.Hoist{1, -1}, h, at, kind))
		}
	}
	if !reflect.DeepEqual(hoistCalls(nil, nil, 0, 0), hoistCalls(impl.Hoist{}, impl.Hoist{}, 0, 0)) {
		t.Error("nil and empty hoists differ")
	}
}

func TestPromise1MeaningsAllArguments(t *testing.T) {
	list := badMeanings()
	for _, h := range someHoists(24) {
		m, _ := toldMeaning(h)
		list = append(list, m)
	}
	for i, m := range list {
		for j, sets := range hoistExtremes {
			subs := hoistExtremes[(i+j)%len(hoistExtremes)]
			first, second := meaningCalls(m, subs, sets, sets, subs), meaningCalls(slices.Clone(m), subs, sets, sets, subs)
			if !reflect.DeepEqual(first, second) {
				t.Fatalf("results differ: %v, %v", first, second)
			}
			zeroIfError(t, first)
		}
	}
	if !reflect.DeepEqual(meaningCalls(nil, 1, 1, 1, 0), meaningCalls(impl.Meaning{}, 1, 1, 1, 0)) {
		t.Error("nil and empty meanings differ")
	}
}

// TestPromise1HoistsUnchanged gives the lists more capacity than length, for this must stay as it is, too.
func TestPromise1HoistsUnchanged(t *testing.T) {
	for _, h := range append(badHoists(), someHoists(80)...) {
		whole := slices.Concat(h, impl.Hoist{33, 34, 35, 36, 37, 38, 33, 34, 35})
		kept := slices.Clone(whole)
		part := whole[:len(h)]
		for at := range int64(9) {
			hoistCalls(part, part, at, 30)
		}
		for subs := range int64(6) {
			meaningCalls(impl.Meaning(part), 2, 2, 1+subs, subs)
		}
		m, _ := toldMeaning(h)
		wholeMeaning := slices.Concat(m, impl.Meaning{33, 34, 35, 36, 37, 38, 33, 34, 35})
		keptMeaning := slices.Clone(wholeMeaning)
		for subs := range int64(6) {
			meaningCalls(wholeMeaning[:len(m)], 2, 2, 1+subs, subs)
		}
		if !slices.Equal(whole, kept) || !slices.Equal(wholeMeaning, keptMeaning) {
			t.Fatalf("%v or %v has changed", kept, keptMeaning)
		}
	}
}

// spoil overwrites a list with all its capacity.
func spoil[E any](list []E, with E) {
	list = list[:cap(list)]
	for i := range list {
		list[i] = with
	}
}

func TestPromise1HoistsNewResults(t *testing.T) {
	h := impl.Hoist{1, 2, impl.Break, 3, -1}
	m := impl.Meaning{1, 2, impl.Break, 3, 3}
	wantHoist, wantMeaning := slices.Clone(h), slices.Clone(m)
	for range 2 { // what is done with the first results must not be seen in the second ones
		meant, code := impl.MeaningOf(h)
		same(t, "meaning", results(meant, code), wantMeaning, impl.OK)
		spoil(meant, 9)
		same(t, "of a hoist without substitutes", results(impl.MeaningOf(impl.Hoist(m))), wantMeaning, impl.OK)
		read, code := impl.MeaningIf(h, 0, 1)
		same(t, "meaning if", results(read, code), wantMeaning, impl.OK)
		spoil(read, 9)
		plain, code := impl.WithoutSubs(impl.Hoist(m))
		same(t, "without", results(plain, code), impl.Hoist(wantMeaning), impl.OK)
		spoil(plain, 9)
		made, code := impl.HoistFor(m, 1, 4)
		same(t, "hoist", results(made, code), wantHoist, impl.OK)
		spoil(made, 9)
		back, code := impl.ReadHoist("1 2 / 3 s1")
		same(t, "read", results(back, code), wantHoist, impl.OK)
		spoil(back, 9)
		spoiled, code := impl.SpoiledBy(h, 3, 0)
		same(t, "spoiled", results(spoiled, code), []int64{3, 4}, impl.OK)
		spoil(spoiled, 9)
		groups, code := impl.GroupsOf(m)
		same(t, "groups", results(groups, code), []impl.Meaning{{1, 2}, {3, 3}}, impl.OK)
		spoil(groups[0], 9)
		same(t, "the second group", results(groups[1]), impl.Meaning{3, 3})
		spoil(groups[1], 9)
		if !slices.Equal(h, wantHoist) || !slices.Equal(m, wantMeaning) {
			t.Fatalf("results share memory with arguments: %v, %v", h, m)
		}
	}
}

func TestPromise1HoistsOfAMillion(t *testing.T) {
	for _, number := range []int8{impl.Break, -5, -1, 0, 40} {
		h := make(impl.Hoist, 1000000)
		spoil(h, number)
		for n, call := range append(hoistCalls(h, h, 0, 0)[:8], meaningCalls(impl.Meaning(h), 1, 1, 1, 0)[:4]...) {
			if codeOf(call) != impl.ErrInvalid {
				t.Errorf("call %d: code %d", n, codeOf(call))
			}
		}
		same(t, "a million", results(impl.ValidHoist(h), impl.SameHoist(h, slices.Clone(h)), impl.HoistText(h)), false, true, "")
	}
	same(t, "a long text", results(impl.ReadHoist(strings.Repeat("s1 ", 333333))), impl.Hoist(nil), impl.ErrSyntax)
}
