package tests

import (
	"reflect"
	"slices"
	"strings"
	"testing"

	"loop.example/g01299/impl"
)

// lockerCalls returns, for some arguments, the results of all functions of chapter 4 that take lockers, hoists or meanings.
func lockerCalls(l, need impl.Locker, hoists []impl.Hoist, list []impl.Meaning, m impl.Meaning, n int64, rounds []int64, text string) [][]any {
	return [][]any{
		results(impl.NeededFor(hoists)),
		results(impl.Covers(l, need)),
		results(impl.LeftIn(l, need)),
		results(impl.MissingFrom(l, need)),
		results(impl.CanFly(l, hoists)),
		results(impl.FirstGrounded(l, hoists)),
		results(impl.CountPieces(l)),
		results(impl.HoistFrom(l, m)),
		results(impl.HoistsFrom(l, list, n)),
		results(impl.FlyInTurn(l, list)),
		results(impl.MostAtOnce(l, list)),
		results(impl.FewestToBuy(l, list)),
		results(impl.RoundsFor(l, list)),
		results(impl.CheckRounds(l, list, rounds)),
		results(impl.EvenLocker(n, 3, 2)),
		results(impl.EvenLocker(3, n, 2)),
		results(impl.EvenLocker(3, 3, n)),
		results(impl.ReadLocker(text)),
		results(impl.ValidLocker(l), impl.LockerText(l), int64(impl.OK)),
	}
}

// copiedLists returns a list with copies of its lists, which have no capacity left.
func copiedLists[L ~[]int8](list []L) []L {
	copies := make([]L, len(list))
	for i := range list {
		copies[i] = slices.Clip(slices.Clone(list[i]))
	}
	return copies
}

func TestPromise1LockersAllArguments(t *testing.T) {
	lockers := append(someLockers(20), badLockers()...)
	full, _ := impl.EvenLocker(20, 40, 4)
	lockers = append(lockers, full, impl.Locker{})
	lists := append(someLists(35), nil, badMeanings(), repeatedMeanings(eight(1), 6), repeatedMeanings(eight(1), 7), []impl.Meaning{eight(1), eight(2), eight(3), eight(4), eight(5), eight(6)}, []impl.Meaning{{0}, nil})
	hoists := [][]impl.Hoist{nil, {{0}}, {{0}, {0, -1}}, badHoists(), someHoists(6), someHoists(7), repeated(impl.Hoist{1, 1, 1, 1, 1, 1, 1, 1}, 6), {{0}, nil}}
	texts := []string{"", "-", "1x1", "3x1 5x1 s1x1", "1x21", " ", "x"}
	for k, l := range lockers {
		for j, n := range lockerExtremes {
			list, flown, text := lists[(j+k)%len(lists)], hoists[(j+2*k)%len(hoists)], texts[(j+k)%len(texts)]
			need := lockers[(7*j+3*k)%len(lockers)]
			m := impl.Meaning{0, 0}
			if len(list) > 0 {
				m = list[0]
			}
			rounds := make([]int64, max(0, len(list)-j%2))
			spoil(rounds, n)
			first := lockerCalls(l, need, flown, list, m, n, rounds, text)
			second := lockerCalls(l, need, copiedLists(flown), copiedLists(list), slices.Clone(m), n, slices.Clone(rounds), strings.Clone(text))
			if !reflect.DeepEqual(first, second) {
				t.Fatalf("results differ: %v, %v", first, second)
			}
			zeroIfError(t, first)
		}
	}
	one := lockerCalls(full, full, nil, nil, nil, 1, nil, "")
	two := lockerCalls(full, full, []impl.Hoist{}, []impl.Meaning{}, impl.Meaning{}, 1, []int64{}, "")
	if !reflect.DeepEqual(one, two) {
		t.Errorf("nil and empty lists differ: %v, %v", one, two)
	}
}

// TestPromise1LockersUnchanged gives the lists more capacity than length, for this must stay as it is, too.
func TestPromise1LockersUnchanged(t *testing.T) {
	lists := append(someLists(70), badMeanings()[:6], []impl.Meaning{eight(1), {1, 1}, eight(2)})
	for k, l := range someLockers(70) {
		for _, list := range [][]impl.Meaning{lists[k], lists[len(lists)-1-k%2]} {
			var whole []impl.Meaning
			var hoists []impl.Hoist
			for _, m := range list {
				whole = append(whole, append(slices.Clone(m), 33, 34)[:len(m)])
				hoists = append(hoists, append(slices.Clone(impl.Hoist(m)), 33, 34)[:len(m)])
			}
			whole, hoists = append(whole, impl.Meaning{35}), append(hoists, impl.Hoist{36})
			rounds := []int64{0, 1, 2, 3, 4, 5, 6, 7, 8}
			for count := range len(list) + 1 {
				lockerCalls(l, l, hoists[:count], whole[:count], whole[0], 100, rounds[:count], "-")
			}
			for i, m := range list {
				want := append(slices.Clone(m), 33, 34)
				if !slices.Equal(whole[i][:len(m)+2], want) || !slices.Equal(hoists[i][:len(m)+2], impl.Hoist(want)) {
					t.Fatalf("%v has changed", want)
				}
			}
			last := len(list)
			if len(whole) != last+1 || !slices.Equal(whole[last], impl.Meaning{35}) || !slices.Equal(hoists[last], impl.Hoist{36}) || !slices.Equal(rounds, []int64{0, 1, 2, 3, 4, 5, 6, 7, 8}) {
				t.Fatal("a list has changed")
			}
		}
	}
}

func TestPromise1LockersNewResults(t *testing.T) {
	l := locker("3x3 5x2 s1x1")
	list := []impl.Meaning{{3, 3}, {3, 3}, {5}}
	for range 2 { // what is done with the first results must not be seen in the second ones
		h, code := impl.HoistFrom(l, list[0])
		same(t, "hoist", results(h, code), impl.Hoist{3, -1}, impl.OK)
		spoil(h, 9)
		h, code = impl.HoistFrom(locker("3x2"), list[0])
		same(t, "hoist without substitutes", results(h, code), impl.Hoist{3, 3}, impl.OK)
		spoil(h, 9)
		hoists, tries, code := impl.HoistsFrom(l, list, 20)
		same(t, "hoists", results(hoists, tries, code), []impl.Hoist{{3, -1}, {3, 3}, {5}}, 3, impl.OK)
		for i := range hoists {
			spoil(hoists[i], 9)
			same(t, "the others", results(hoists[i+1:]), []impl.Hoist{{3, -1}, {3, 3}, {5}}[i+1:])
		}
		hoists, _, _ = impl.HoistsFrom(locker("3x2"), repeatedMeanings(impl.Meaning{3}, 2), 20)
		spoil(hoists[0], 9)
		same(t, "the second one of two equal ones", results(hoists[1]), impl.Hoist{3})
		spoil(hoists, nil)
		flown, code := impl.FlyInTurn(l, list)
		same(t, "in turn", results(flown, code), []int64{0, 1, 2}, impl.OK)
		spoil(flown, 9)
		most, code := impl.MostAtOnce(l, list)
		same(t, "at once", results(most, code), []int64{0, 1, 2}, impl.OK)
		spoil(most, 9)
		rounds, count, code := impl.RoundsFor(l, list)
		same(t, "rounds", results(rounds, count, code), []int64{0, 0, 0}, 1, impl.OK)
		spoil(rounds, 9)
		if !reflect.DeepEqual(list, []impl.Meaning{{3, 3}, {3, 3}, {5}}) {
			t.Fatalf("results share memory with arguments: %v", list)
		}
	}
}

func TestPromise1LockersOfAMillion(t *testing.T) {
	full, _ := impl.EvenLocker(20, 40, 4)
	for _, hoist := range []impl.Hoist{nil, {0}, make(impl.Hoist, 1000000)} {
		count, code := 1000000, int64(impl.ErrInvalid)
		if len(hoist) == 1 {
			code = impl.ErrLimit
		}
		hoists, list := make([]impl.Hoist, count/max(1, len(hoist))), make([]impl.Meaning, count/max(1, len(hoist)))
		spoil(hoists, hoist)
		spoil(list, impl.Meaning(hoist))
		calls := lockerCalls(full, full, hoists, list, impl.Meaning(hoist), 1, make([]int64, len(list)), strings.Repeat("0x1 ", 250000))
		for _, n := range []int{0, 4, 5, 8, 9, 10, 11, 12, 13} {
			if codeOf(calls[n]) != code {
				t.Errorf("call %d: code %d", n, codeOf(calls[n]))
			}
		}
		// One that is invalid, behind all others.
		if code == impl.ErrLimit {
			hoists[len(hoists)-1], list[len(list)-1] = nil, nil
			for _, n := range []int{0, 4, 5, 8, 9, 10, 11, 12, 13} {
				if call := lockerCalls(full, full, hoists, list, nil, 1, nil, "")[n]; codeOf(call) != impl.ErrInvalid {
					t.Errorf("call %d: code %d", n, codeOf(call))
				}
			}
		}
	}
	same(t, "a million rounds", results(impl.CheckRounds(full, []impl.Meaning{{0}}, make([]int64, 999000))), false, impl.OK)
	same(t, "a long text", results(impl.ReadLocker(strings.Repeat("0x1 ", 250000))), impl.Locker{}, impl.ErrSyntax)
}
