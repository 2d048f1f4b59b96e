package tests

import (
	"fmt"
	"math"
	"slices"
	"testing"

	"loop.example/g01299/impl"
)

func TestLockerConstants(t *testing.T) {
	same(t, "constants", results(int64(impl.MaxStock), int64(impl.MaxSignals), int64(impl.MaxTries)), 20, 6, 20000)
}

func TestPromise9Example(t *testing.T) {
	hoists := []impl.Hoist{{3, -1}, {3, 5}}
	l := locker("3x1 5x1 s1x1")
	need, code := impl.NeededFor(hoists)
	same(t, "needed", results(need, impl.LockerText(need), code), locker("3x2 5x1 s1x1"), "3x2 5x1 s1x1", impl.OK)
	same(t, "the first one", results(impl.CanFly(l, hoists[:1])), true, impl.OK)
	same(t, "both", results(impl.CanFly(l, hoists)), false, impl.OK)
	same(t, "grounded", results(impl.FirstGrounded(l, hoists)), 1, impl.OK)
	same(t, "missing", results(impl.MissingFrom(l, need)), locker("3x1"), impl.OK)
	same(t, "left", results(impl.LeftIn(l, need)), impl.Locker{}, impl.ErrState)
}

func TestPromise9ValidLocker(t *testing.T) {
	for i := range 44 {
		for number := -70; number <= 70; number++ {
			var l impl.Locker
			if i < 40 {
				l.Flags[i] = int16(number)
			} else {
				l.Subs[i-40] = int16(number)
			}
			same(t, fmt.Sprint("piece ", i, " number ", number), results(impl.ValidLocker(l)), number >= 0 && number <= 20)
		}
	}
	for _, l := range badLockers() {
		same(t, "an invalid one", results(impl.ValidLocker(l), toldValidLocker(l)), false, false)
	}
	for _, l := range someLockers(50) {
		same(t, "a valid one", results(impl.ValidLocker(l), toldValidLocker(l)), true, true)
	}
	var full impl.Locker
	spoil(full.Flags[:], 20)
	spoil(full.Subs[:], 20)
	same(t, "full, and empty", results(impl.ValidLocker(full), impl.ValidLocker(impl.Locker{})), true, true)
}

func TestPromise9EvenLocker(t *testing.T) {
	for _, sets := range lockerExtremes {
		for _, kinds := range lockerExtremes {
			for _, subs := range lockerExtremes {
				l, code := impl.EvenLocker(sets, kinds, subs)
				name := fmt.Sprint(sets, " sets, ", kinds, " kinds, ", subs, " substitutes")
				if sets < 0 || sets > 20 || kinds < 0 || kinds > 40 || subs < 0 || subs > 4 {
					same(t, name, results(l, code), impl.Locker{}, impl.ErrRange)
					continue
				}
				var want impl.Locker
				spoil(want.Flags[:kinds:kinds], int16(sets))
				spoil(want.Subs[:subs:subs], int16(sets))
				same(t, name, results(l, code), want, impl.OK)
			}
		}
	}
	same(t, "two sets", results(impl.EvenLocker(2, 3, 1)), locker("0x2 1x2 2x2 s1x2"), impl.OK)
}

func TestPromise9NeededFor(t *testing.T) {
	seed := numbers(5)
	hoists := someHoists(200)
	for k := range 600 {
		var list []impl.Hoist
		for range k % 7 {
			list = append(list, hoists[seed.below(len(hoists))])
		}
		want, code := toldNeed(list...), int64(impl.OK)
		if !toldValidLocker(want) {
			want, code = impl.Locker{}, impl.ErrLimit
		}
		same(t, fmt.Sprint(list), results(impl.NeededFor(list)), want, code)
	}
	for _, h := range hoists {
		flags, _ := impl.FlagsIn(h)
		subs, _ := impl.SubsIn(h)
		need, code := impl.NeededFor([]impl.Hoist{h})
		same(t, toldText(h), results(code), impl.OK)
		for kind, count := range flags {
			same(t, toldText(h), results(int64(need.Flags[kind])), count)
		}
		for i, count := range subs {
			same(t, toldText(h), results(int64(need.Subs[i])), count)
		}
	}
	same(t, "none", results(impl.NeededFor(nil)), impl.Locker{}, impl.OK)
}

// ofOne returns a hoist with a flag of the kind 1, and so many numbers of one kind behind it.
func ofOne(number int8, count int) impl.Hoist {
	h := impl.Hoist{1, 2, 3, 4}[:max(1, -int(number))]
	return append(slices.Clone(h), repeatedNumber(number, count)...)
}

func repeatedNumber(number int8, count int) impl.Hoist {
	h := make(impl.Hoist, count)
	spoil(h, number)
	return h
}

func TestPromise9NeedsOfTwentyAndMore(t *testing.T) {
	for _, number := range []int8{0, 5, 39, -1, -2, -3, -4} {
		twenty := []impl.Hoist{ofOne(number, 4), ofOne(number, 4), ofOne(number, 4), ofOne(number, 4), ofOne(number, 4)}
		need, code := impl.NeededFor(twenty)
		want := toldNeed(twenty...)
		same(t, fmt.Sprint("20 of ", number), results(need, code, toldValidLocker(want)), want, impl.OK, true)
		more := append(slices.Clone(twenty), ofOne(number, 1))
		want = toldNeed(more...)
		same(t, fmt.Sprint("21 of ", number), results(impl.NeededFor(more)), impl.Locker{}, impl.ErrLimit)
		full, _ := impl.EvenLocker(20, 40, 4)
		same(t, "20 can be flown", results(impl.CanFly(full, twenty)), true, impl.OK)
		same(t, "21 cannot", results(impl.CanFly(full, more)), false, impl.OK)
		same(t, "nor can the last one", results(impl.FirstGrounded(full, more)), 5, impl.OK)
		same(t, "nor 24", results(impl.CanFly(full, append(slices.Clone(twenty), ofOne(number, 4)))), false, impl.OK)
	}
	eight := repeated(repeatedNumber(9, 8), 6)
	for count := range 7 {
		want, code := toldNeed(eight[:count]...), int64(impl.OK)
		if count > 2 {
			want, code = impl.Locker{}, impl.ErrLimit
		}
		same(t, fmt.Sprint(count, " hoists of eight"), results(impl.NeededFor(eight[:count])), want, code)
	}
	full, _ := impl.EvenLocker(20, 40, 4)
	same(t, "48 flags of a kind", results(impl.FirstGrounded(full, eight)), 2, impl.OK)
}

func TestPromise9WhatIsLeftAndMissing(t *testing.T) {
	lockers := append(someLockers(60), impl.Locker{})
	full, _ := impl.EvenLocker(20, 40, 4)
	lockers = append(lockers, full)
	covered := 0
	for _, l := range lockers {
		for _, need := range lockers {
			covers, code := impl.Covers(l, need)
			same(t, "covers", results(covers, code), toldCovers(l, need), impl.OK)
			missing, code := impl.MissingFrom(l, need)
			same(t, "missing", results(missing, code), toldMissing(l, need), impl.OK)
			same(t, "added", results(toldCovers(toldPlus(l, missing), need)), true)
			left, code := impl.LeftIn(l, need)
			if !covers {
				same(t, "not covered", results(left, code), impl.Locker{}, impl.ErrState)
				continue
			}
			covered++
			same(t, "left", results(left, code, toldPlus(left, need), missing), toldMinus(l, need), impl.OK, l, impl.Locker{})
		}
	}
	if covered < 100 || covered > len(lockers)*len(lockers)-100 {
		t.Errorf("%d of %d needs are covered", covered, len(lockers)*len(lockers))
	}
}

func TestPromise9JustCovered(t *testing.T) {
	l := locker("0x1 1x20 7x2 39x3 s1x1 s2x20 s4x2")
	same(t, "itself", results(impl.Covers(l, l)), true, impl.OK)
	same(t, "itself", results(impl.LeftIn(l, l)), impl.Locker{}, impl.OK)
	same(t, "itself", results(impl.MissingFrom(l, l)), impl.Locker{}, impl.OK)
	for i := range 44 {
		need, one := l, impl.Locker{}
		if i < 40 {
			need.Flags[i]++
			one.Flags[i] = 1
		} else {
			need.Subs[i-40]++
			one.Subs[i-40] = 1
		}
		if !toldValidLocker(need) {
			continue
		}
		name := fmt.Sprint("one of ", i)
		same(t, name+" more is needed", results(impl.Covers(l, need)), false, impl.OK)
		same(t, name+" more is needed", results(impl.LeftIn(l, need)), impl.Locker{}, impl.ErrState)
		same(t, name+" more is needed", results(impl.MissingFrom(l, need)), one, impl.OK)
		same(t, name+" more is there", results(impl.Covers(need, l)), true, impl.OK)
		same(t, name+" more is there", results(impl.LeftIn(need, l)), one, impl.OK)
		same(t, name+" more is there", results(impl.MissingFrom(need, l)), impl.Locker{}, impl.OK)
	}
	// What there is too much of does not help where there is too little.
	same(t, "another flag", results(impl.Covers(locker("0x1 1x20 s1x20"), locker("2x1"))), false, impl.OK)
	same(t, "a substitute", results(impl.Covers(locker("0x20 s2x20"), locker("0x1 s1x1"))), false, impl.OK)
}

func TestPromise9CountPieces(t *testing.T) {
	for _, l := range someLockers(60) {
		same(t, toldLockerText(l), results(impl.CountPieces(l)), toldSum(l), impl.OK)
	}
	full, _ := impl.EvenLocker(20, 40, 4)
	same(t, "full", results(impl.CountPieces(full)), 880, impl.OK)
	same(t, "empty", results(impl.CountPieces(impl.Locker{})), 0, impl.OK)
	for _, bad := range badLockers() {
		same(t, "invalid", results(impl.CountPieces(bad)), 0, impl.ErrInvalid)
	}
}

func TestPromise9CanFlyAndFirstGrounded(t *testing.T) {
	seed := numbers(31)
	hoists := someHoists(160)
	flown, grounded := 0, 0
	for k, l := range someLockers(800) {
		var list []impl.Hoist
		for range k % 7 {
			h := hoists[seed.below(len(hoists))]
			list = append(list, h[:1+seed.below(len(h))])
			if last := &list[len(list)-1]; (*last)[len(*last)-1] == impl.Break {
				*last = (*last)[:len(*last)-1]
			}
		}
		first := -1
		for i := len(list); i > 0; i-- {
			if !toldCovers(l, toldNeed(list[:i]...)) {
				first = i - 1
			}
		}
		name := fmt.Sprint(toldLockerText(l), list)
		same(t, name, results(impl.CanFly(l, list)), first < 0, impl.OK)
		if first < 0 {
			flown++
			same(t, name, results(impl.FirstGrounded(l, list)), 0, impl.ErrNotFound)
		} else {
			grounded++
			same(t, name, results(impl.FirstGrounded(l, list)), first, impl.OK)
		}
	}
	if flown < 100 || grounded < 100 {
		t.Errorf("%d lists can be flown, %d cannot", flown, grounded)
	}
}

func TestPromise9WhichIsGrounded(t *testing.T) {
	tests := []struct {
		l     string
		list  []impl.Hoist
		first int64
	}{
		{"-", []impl.Hoist{{0}}, 0},
		{"-", []impl.Hoist{{0}, {1}}, 0},
		{"0x1", []impl.Hoist{{1}, {0}}, 0},
		{"0x1", []impl.Hoist{{0}, {1}, {0}}, 1},
		{"0x1 1x1", []impl.Hoist{{0}, {1}, {0}}, 2},
		{"0x6 s1x5", repeated(impl.Hoist{0, -1}, 6), 5},
		{"0x5 s1x6", repeated(impl.Hoist{0, -1}, 6), 5},
		{"0x6 s1x3", repeated(impl.Hoist{0, -1}, 6), 3},
		{"3x2 s1x1", []impl.Hoist{{3, -1}, {3, impl.Break, 3}}, 1},
	}
	for _, test := range tests {
		name := fmt.Sprint(test.l, test.list)
		same(t, name, results(impl.FirstGrounded(locker(test.l), test.list)), test.first, impl.OK)
		same(t, name, results(impl.CanFly(locker(test.l), test.list)), false, impl.OK)
		same(t, name+" without it", results(impl.CanFly(locker(test.l), test.list[:test.first])), true, impl.OK)
		same(t, name+" without it", results(impl.FirstGrounded(locker(test.l), test.list[:test.first])), 0, impl.ErrNotFound)
	}
	same(t, "six", results(impl.FirstGrounded(locker("0x6 s1x6"), repeated(impl.Hoist{0, -1}, 6))), 0, impl.ErrNotFound)
	same(t, "two groups", results(impl.CanFly(locker("3x2 s1x2"), []impl.Hoist{{3, -1, impl.Break, 3, -1}})), true, impl.OK)
	same(t, "two groups, one substitute", results(impl.CanFly(locker("3x2 s1x1"), []impl.Hoist{{3, -1, impl.Break, 3, -1}})), false, impl.OK)
	same(t, "none", results(impl.CanFly(impl.Locker{}, nil)), true, impl.OK)
	same(t, "none", results(impl.FirstGrounded(impl.Locker{}, nil)), 0, impl.ErrNotFound)
}

func TestPromise9Errors(t *testing.T) {
	good, more := locker("0x1 s1x1"), locker("0x2")
	for _, bad := range badLockers() {
		for n, call := range [][]any{
			results(impl.Covers(bad, good)), results(impl.Covers(good, bad)), results(impl.Covers(bad, bad)),
			results(impl.CanFly(bad, nil)), results(impl.CanFly(bad, make([]impl.Hoist, 7))), results(impl.CanFly(bad, repeated(impl.Hoist{0}, 7))),
		} {
			same(t, fmt.Sprint("invalid locker, call ", n), call, false, impl.ErrInvalid)
		}
		for n, call := range [][]any{
			results(impl.LeftIn(bad, good)), results(impl.LeftIn(good, bad)), results(impl.LeftIn(bad, more)), results(impl.LeftIn(bad, bad)),
			results(impl.MissingFrom(bad, good)), results(impl.MissingFrom(good, bad)), results(impl.MissingFrom(bad, bad)),
		} {
			same(t, fmt.Sprint("invalid locker, call ", n), call, impl.Locker{}, impl.ErrInvalid)
		}
		for _, list := range [][]impl.Hoist{nil, {{0}}, {{1}}, {nil}, repeated(impl.Hoist{0}, 7)} {
			same(t, "invalid locker", results(impl.FirstGrounded(bad, list)), 0, impl.ErrInvalid)
		}
	}
	for _, bad := range badHoists() {
		for at := range 8 {
			list := slices.Insert(repeated(impl.Hoist{0}, 7), at, bad)
			for _, part := range [][]impl.Hoist{list, list[at : at+1], list[:at+1], list[at:]} {
				same(t, "invalid hoist", results(impl.NeededFor(part)), impl.Locker{}, impl.ErrInvalid)
				same(t, "invalid hoist", results(impl.CanFly(good, part)), false, impl.ErrInvalid)
				same(t, "invalid hoist", results(impl.FirstGrounded(good, part)), 0, impl.ErrInvalid)
			}
		}
	}
	for count := range 10 {
		list, want, code := repeated(impl.Hoist{0}, count), impl.Locker{Flags: [40]int16{int16(count)}}, int64(impl.OK)
		grounded := code
		switch {
		case count > 6:
			want, code, grounded = impl.Locker{}, impl.ErrLimit, impl.ErrLimit
		case count == 0:
			grounded = impl.ErrNotFound
		}
		name := fmt.Sprint(count, " hoists")
		same(t, name, results(impl.NeededFor(list)), want, code)
		same(t, name, results(impl.CanFly(locker("0x20"), list)), code == impl.OK, code)
		same(t, name, results(impl.FirstGrounded(impl.Locker{}, list)), 0, grounded)
	}
	same(t, "7 hoists with 21 of a kind", results(impl.NeededFor(repeated(repeatedNumber(1, 3), 7))), impl.Locker{}, impl.ErrLimit)
	same(t, "far out", results(impl.EvenLocker(math.MaxInt64, math.MaxInt64, math.MaxInt64)), impl.Locker{}, impl.ErrRange)
}
