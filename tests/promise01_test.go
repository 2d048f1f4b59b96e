package tests

import (
	"fmt"
	"reflect"
	"slices"
	"testing"

	"loop.example/g01299/impl"
)

// flagCalls returns, for some arguments, the results of all functions of chapter 1 that take flags, but no sets.
func flagCalls(f, g impl.Flag, a, b, c int64) [][]any {
	two := func(x any, code int64) []any { return results(x, code) }
	var list [][]any
	add := func(r []any) { list = append(list, r) }
	for _, is := range []bool{true, false} {
		s, code := impl.StripesOf([]int64{a, b, c}, is)
		add(two(s, code))
		l, code := impl.LooksLike(f, g, is)
		add(two(l, code))
	}
	for _, pattern := range []func(a, b int64) (impl.Flag, int64){impl.CrossOf, impl.BorderOf, impl.ChequersOf} {
		p, code := pattern(a, b)
		add(two(p, code))
	}
	for _, view := range []func(f impl.Flag) (impl.Flag, int64){impl.MirrorFlag, impl.TurnFlag} {
		v, code := view(f)
		add(two(v, code))
	}
	for _, distance := range []func(f, g impl.Flag) (int64, int64){impl.DistanceOf, impl.BlurDistance} {
		d, code := distance(f, g)
		add(two(d, code))
	}
	plainFlag, code := impl.PlainFlag(a)
	add(two(plainFlag, code))
	painted, code := impl.PaintCell(f, a, b, c)
	add(two(painted, code))
	cell, code := impl.CellOf(f, a, b)
	add(two(cell, code))
	recoloured, code := impl.RecolourFlag(f, a, b)
	add(two(recoloured, code))
	counts, code := impl.CountColours(f)
	add(two(counts, code))
	blur, code := impl.BlurFlag(f)
	add(two(blur, code))
	down, code := impl.IsUpsideDown(f, g)
	add(two(down, code))
	back, code := impl.ReadFlag(impl.FlagText(f))
	add(two(back, code))
	add(results(impl.CodeName(a), impl.ColourName(a), impl.ValidFlag(f), impl.FlagText(f), int64(impl.OK)))
	return list
}

// setCalls returns, for a set, the results of all functions of chapter 1 that take sets.
func setCalls(set []impl.Flag, least int64) [][]any {
	are, one := impl.AreDistinct(set, least)
	i, j, near, two := impl.NearestPair(set)
	chosen, three := impl.ChooseDistinct(set, least)
	most, four := impl.MostDistinct(set, least)
	return [][]any{results(are, one), results(i, j, near, two), results(chosen, three), results(most, four)}
}

// zeroIfError checks that there is nothing beside a code other than OK.
func zeroIfError(t *testing.T, calls [][]any) {
	t.Helper()
	for n, call := range calls {
		if codeOf(call) == impl.OK {
			continue
		}
		for _, result := range call[:len(call)-1] {
			if !reflect.ValueOf(result).IsZero() && !isEmptyList(result) {
				t.Errorf("call %d: %v with the code %d", n, result, codeOf(call))
			}
		}
	}
}

func TestPromise1AllArguments(t *testing.T) {
	flags := append(someFlags(2), badFlags()[:3]...)
	for _, f := range flags {
		for _, g := range flags {
			for _, a := range extremes {
				for _, b := range extremes {
					c := extremes[(uint64(a)+3*uint64(b))%uint64(len(extremes))]
					first, second := flagCalls(f, g, a, b, c), flagCalls(f, g, a, b, c)
					if !reflect.DeepEqual(first, second) {
						t.Fatalf("results differ: %v, %v", first, second)
					}
					zeroIfError(t, first)
				}
			}
		}
	}
}

func TestPromise1AllSets(t *testing.T) {
	for _, size := range []int{0, 1, 2, 12, 13, 40, 41, 41000} {
		for _, least := range extremes {
			set := someFlags(size)
			first := setCalls(set, least)
			zeroIfError(t, first)
			if second := setCalls(someFlags(size), least); !reflect.DeepEqual(first, second) {
				t.Fatalf("%d flags, least %d: results differ: %v, %v", size, least, first, second)
			}
			if size == 0 {
				continue
			}
			set[size-1][23] = 6
			for n, call := range setCalls(set, least) {
				if codeOf(call) != impl.ErrInvalid {
					t.Errorf("%d flags, the last one invalid, call %d: code %d", size, n, codeOf(call))
				}
			}
			zeroIfError(t, setCalls(set, least))
		}
	}
	if !reflect.DeepEqual(setCalls(nil, 3), setCalls([]impl.Flag{}, 3)) {
		t.Error("nil and empty sets differ")
	}
}

// TestPromise1Unchanged gives the lists more capacity than length, for this must stay as it is, too.
func TestPromise1Unchanged(t *testing.T) {
	for size := range 14 {
		whole := someFlags(20)
		kept := slices.Clone(whole)
		for least := int64(-1); least <= 7; least++ {
			setCalls(whole[:size], least)
		}
		if !slices.Equal(whole, kept) {
			t.Errorf("a set of %d flags has changed", size)
		}
	}
	for size := range 8 {
		whole := []int64{0, 1, 2, 3, 4, 5, 6, 7, 8, 9}
		kept := slices.Clone(whole)
		impl.StripesOf(whole[:size], true)
		impl.StripesOf(whole[:size], false)
		if !slices.Equal(whole, kept) {
			t.Errorf("%d colours have changed", size)
		}
	}
	f := someFlags(1)[0]
	kept := f
	flagCalls(f, f, 1, 2, 3)
	if f != kept {
		t.Error("a flag has changed")
	}
}

func TestPromise1NewResults(t *testing.T) {
	set := []impl.Flag{plain(0), plain(1), plain(1), plain(2)}
	for _, choose := range []func(set []impl.Flag, least int64) ([]int64, int64){impl.ChooseDistinct, impl.MostDistinct} {
		first, _ := choose(set, 1)
		kept := slices.Clone(first)
		second, _ := choose(set, 1)
		for i := range second[:cap(second)] {
			second[:cap(second)][i] = -9
		}
		if !slices.Equal(first, kept) {
			t.Error("two results share memory")
		}
		third, code := choose(set, 1)
		same(t, "after a result has been changed", results(third, code), kept, impl.OK)
	}
}

func TestPromise1SetErrors(t *testing.T) {
	const ok, invalid, outOfRange, limit, notFound, budget = impl.OK, impl.ErrInvalid, impl.ErrRange, impl.ErrLimit, impl.ErrNotFound, impl.ErrBudget
	tests := []struct {
		size                            int
		bad                             bool
		least                           int64
		distinct, nearest, choose, most int64
	}{
		{0, false, 0, ok, notFound, ok, ok},
		{0, false, 6, ok, notFound, ok, ok},
		{0, false, -1, outOfRange, notFound, outOfRange, outOfRange},
		{0, false, 7, outOfRange, notFound, outOfRange, outOfRange},
		{1, false, 0, ok, notFound, ok, ok},
		{1, false, 7, outOfRange, notFound, outOfRange, outOfRange},
		{1, true, 0, invalid, invalid, invalid, invalid},
		{1, true, -1, invalid, invalid, invalid, invalid},
		{2, false, 6, ok, ok, ok, ok},
		{2, false, -1, outOfRange, ok, outOfRange, outOfRange},
		{12, false, 0, ok, ok, ok, ok},
		{12, false, 6, ok, ok, ok, ok},
		{12, false, 7, outOfRange, ok, outOfRange, outOfRange},
		{13, false, 0, ok, ok, ok, budget},
		{13, false, -1, outOfRange, ok, outOfRange, outOfRange},
		{13, true, 3, invalid, invalid, invalid, invalid},
		{40, false, 6, ok, ok, ok, budget},
		{40, false, 7, outOfRange, ok, outOfRange, outOfRange},
		{40, true, 7, invalid, invalid, invalid, invalid},
		{41, false, 0, limit, limit, limit, limit},
		{41, false, -1, limit, limit, limit, limit},
		{41, false, 7, limit, limit, limit, limit},
		{41, true, 0, invalid, invalid, invalid, invalid},
		{41, true, 7, invalid, invalid, invalid, invalid},
	}
	for _, test := range tests {
		set := someFlags(test.size)
		if test.bad {
			set[test.size-1][0] = 6
		}
		calls := setCalls(set, test.least)
		got := results(codeOf(calls[0]), codeOf(calls[1]), codeOf(calls[2]), codeOf(calls[3]))
		name := fmt.Sprintf("codes of %d flags, least %d, an invalid one: %t", test.size, test.least, test.bad)
		same(t, name, got, test.distinct, test.nearest, test.choose, test.most)
	}
}
