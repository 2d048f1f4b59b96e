package tests

import (
	"fmt"
	"slices"
	"testing"

	"loop.example/g01299/impl"
)

// wrongOf returns the ships of a line that have read something with another meaning than the hoist.
func wrongOf(h impl.Hoist, read []impl.Hoist) []int64 {
	var wrong []int64
	meant, _ := toldMeaning(h)
	for ship, one := range read {
		if other, valid := toldMeaning(one); valid && !slices.Equal(other, meant) {
			wrong = append(wrong, int64(ship))
		}
	}
	return wrong
}

// toldNoticed returns the least time at which one of some ships flies.
func toldNoticed(line []impl.Ship, ships []int64) (int64, int64) {
	if len(ships) == 0 {
		return 0, impl.ErrNotFound
	}
	var flown []int64
	for _, ship := range ships {
		flown = append(flown, toldTimes(line)[ship].Flown)
	}
	return slices.Min(flown), impl.OK
}

// firstOf returns the first one of some ships.
func firstOf(ships []int64) (int64, int64) {
	if len(ships) == 0 {
		return 0, impl.ErrNotFound
	}
	return ships[0], impl.OK
}

func TestPromise15Example(t *testing.T) {
	line := lineOf("0/0/2 1/3/1 2/2/1")
	for _, h := range []impl.Hoist{{3}, {3, -1, 5}, {3, 5, -1, -2}, {3, impl.Break, 5}} {
		faults := []impl.Fault{{Ship: 1, At: 0, Kind: 7}}
		same(t, "wrong", results(impl.WrongShips(line, h, faults)), []int64{1}, impl.OK)
		same(t, "noticed", results(impl.NoticedAt(line, h, faults)), 6, impl.OK)
		other := slices.Clone(h)
		other[0] = 7
		read, code := impl.ReadByAll(line, h, faults)
		same(t, "read", results(read, code), []impl.Hoist{h, other, h}, impl.OK)
		same(t, "blamed", results(impl.FirstBlamed(line, h, read)), 1, impl.OK)
	}
}

func TestPromise15ByHand(t *testing.T) {
	const gap = impl.Break
	row, split := "0/0/1 1/2/1 1/2/1 1/2/1", "0/0/1 1/2/3 2/9/1 0/0/0 2/5/5 2/1/1" // in the second one 2 and 4 have it from 0 and 2, 3 is not reached
	tests := []struct {
		text    string
		h       impl.Hoist
		faults  []impl.Fault
		read    []impl.Hoist
		wrong   []int64
		noticed int64
	}{
		{row, impl.Hoist{3, 5}, nil, []impl.Hoist{{3, 5}, {3, 5}, {3, 5}, {3, 5}}, nil, -1},
		{row, impl.Hoist{3, 5}, []impl.Fault{{Ship: 2, At: 1, Kind: 0}}, []impl.Hoist{{3, 5}, {3, 5}, {3, 0}, {3, 0}}, []int64{2, 3}, 7},
		{row, impl.Hoist{3, 5}, []impl.Fault{{Ship: 2, At: 1, Kind: 5}}, []impl.Hoist{{3, 5}, {3, 5}, {3, 5}, {3, 5}}, nil, -1},
		{row, impl.Hoist{3, 5}, []impl.Fault{{Ship: 1, At: 0, Kind: 9}, {Ship: 3, At: 0, Kind: 3}}, []impl.Hoist{{3, 5}, {9, 5}, {9, 5}, {3, 5}}, []int64{1, 2}, 4},
		{row, impl.Hoist{3, 5}, []impl.Fault{{Ship: 3, At: 0, Kind: 9}, {Ship: 1, At: 0, Kind: 9}}, []impl.Hoist{{3, 5}, {9, 5}, {9, 5}, {9, 5}}, []int64{1, 2, 3}, 4},
		{row, impl.Hoist{3, 5}, []impl.Fault{{Ship: 3, At: 0, Kind: 5}, {Ship: 2, At: 1, Kind: 3}}, []impl.Hoist{{3, 5}, {3, 5}, {3, 3}, {5, 3}}, []int64{2, 3}, 7},
		{row, impl.Hoist{3, -1, -2, 5}, []impl.Fault{{Ship: 2, At: 0, Kind: 39}}, []impl.Hoist{{3, -1, -2, 5}, {3, -1, -2, 5}, {39, -1, -2, 5}, {39, -1, -2, 5}}, []int64{2, 3}, 7},
		{row, impl.Hoist{3, gap, 3, -1}, []impl.Fault{{Ship: 3, At: 2, Kind: 0}}, []impl.Hoist{{3, gap, 3, -1}, {3, gap, 3, -1}, {3, gap, 3, -1}, {3, gap, 0, -1}}, []int64{3}, 10},
		{split, impl.Hoist{3}, []impl.Fault{{Ship: 1, At: 0, Kind: 4}}, []impl.Hoist{{3}, {4}, {3}, nil, {3}, {3}}, []int64{1}, 6},
		{split, impl.Hoist{3}, []impl.Fault{{Ship: 2, At: 0, Kind: 4}}, []impl.Hoist{{3}, {3}, {4}, nil, {4}, {4}}, []int64{2, 4, 5}, 11},
		{split, impl.Hoist{3}, []impl.Fault{{Ship: 3, At: 0, Kind: 4}}, []impl.Hoist{{3}, {3}, {3}, nil, {3}, {3}}, nil, -1},
		{split, impl.Hoist{3}, []impl.Fault{{Ship: 5, At: 0, Kind: 4}, {Ship: 3, At: 0, Kind: 4}, {Ship: 4, At: 0, Kind: 5}, {Ship: 2, At: 0, Kind: 5}}, []impl.Hoist{{3}, {3}, {5}, nil, {5}, {4}}, []int64{2, 4, 5}, 11},
		{"0/0/1 1/9/9 2/1/1", impl.Hoist{3}, []impl.Fault{{Ship: 1, At: 0, Kind: 4}, {Ship: 2, At: 0, Kind: 4}}, []impl.Hoist{{3}, {4}, {4}}, []int64{1, 2}, 3}, // the ship behind flies it first
		{"0/0/1 0/9/9 1/1/1", impl.Hoist{3, -1}, []impl.Fault{{Ship: 1, At: 0, Kind: 4}, {Ship: 2, At: 0, Kind: 4}}, []impl.Hoist{{3, -1}, nil, nil}, nil, -1},
		{"0/0/0 1/0/0", impl.Hoist{3}, []impl.Fault{{Ship: 1, At: 0, Kind: 4}}, []impl.Hoist{{3}, {4}}, []int64{1}, 0},
		{"0/60/60", impl.Hoist{3, -1}, nil, []impl.Hoist{{3, -1}}, nil, -1},
	}
	for k, test := range tests {
		line := lineOf(test.text)
		name := fmt.Sprint("line ", k)
		same(t, name, results(impl.ReadByAll(line, test.h, test.faults)), test.read, impl.OK)
		same(t, name, results(impl.WrongShips(line, test.h, test.faults)), test.wrong, impl.OK)
		if test.noticed < 0 {
			same(t, name, results(impl.NoticedAt(line, test.h, test.faults)), 0, impl.ErrNotFound)
			same(t, name, results(impl.FirstBlamed(line, test.h, test.read)), 0, impl.ErrNotFound)
			continue
		}
		same(t, name, results(impl.NoticedAt(line, test.h, test.faults)), test.noticed, impl.OK)
	}
}

func TestPromise15WithoutFaults(t *testing.T) {
	hoists := someHoists(400)
	for k, line := range someLines(400) {
		h := hoists[k]
		unreached, _ := impl.Unreached(line)
		for _, faults := range [][]impl.Fault{nil, {}} {
			read, code := impl.ReadByAll(line, h, faults)
			same(t, "how many", results(int64(len(read)), code), len(line), impl.OK)
			for ship, one := range read {
				want := h
				if slices.Contains(unreached, int64(ship)) {
					want = nil
				}
				same(t, fmt.Sprint(toldLineText(line), ", ship ", ship), results(one), want)
			}
			same(t, toldLineText(line), results(impl.WrongShips(line, h, faults)), []int64(nil), impl.OK)
			same(t, toldLineText(line), results(impl.NoticedAt(line, h, faults)), 0, impl.ErrNotFound)
			same(t, toldLineText(line), results(impl.FirstBlamed(line, h, read)), 0, impl.ErrNotFound)
		}
	}
}

func TestPromise15OnlyShipsWithAFaultAreBlamed(t *testing.T) {
	seed := numbers(131)
	blamed, unnoticed, undone := 0, 0, 0
	hoists := someHoists(200)
	for k, line := range someLines(2000) {
		h := hoists[k%200]
		faults := drawnFaults(&seed, len(line), h)
		want := toldReading(line, h, faults)
		name := fmt.Sprint(toldLineText(line), ", ", toldText(h), ", ", faults)
		read, code := impl.ReadByAll(line, h, faults)
		same(t, name, results(read, code), want, impl.OK)
		differing, wrong := toldDiffering(line, h, want), wrongOf(h, want)
		same(t, name, results(impl.WrongShips(line, h, faults)), wrong, impl.OK)
		first, code := firstOf(differing)
		same(t, name, results(impl.FirstBlamed(line, h, read)), first, code)
		noticed, code := toldNoticed(line, differing)
		same(t, name, results(impl.NoticedAt(line, h, faults)), noticed, code)
		for _, ship := range differing {
			if !slices.ContainsFunc(faults, func(f impl.Fault) bool { return int64(f.Ship) == ship }) {
				t.Errorf("%s: ship %d has no fault", name, ship)
			}
			if !slices.Contains(wrong, ship) {
				undone++
			}
		}
		if blamed += len(differing); len(differing) == 0 && len(faults) > 0 {
			unnoticed++
		}
	}
	if blamed < 1000 || unnoticed < 100 || undone < 100 {
		t.Errorf("%d ships blamed, in %d lines no fault noticed, %d faults that undo others", blamed, unnoticed, undone)
	}
}

// TestPromise15OneFault spoils at the ships behind the fault what SpoiledBy tells.
func TestPromise15OneFault(t *testing.T) {
	hoists := someHoists(100)
	for k, line := range someLines(100) {
		h := hoists[k]
		list := toldTimes(line)
		for ship := 1; ship < len(line); ship++ {
			for _, at := range placesOfFlags(h) {
				for _, kind := range []int8{0, 1, 38, 39} {
					faults := []impl.Fault{{Ship: int8(ship), At: at, Kind: kind}}
					name := fmt.Sprint(toldLineText(line), ", ", toldText(h), ", ", faults)
					spoiled, _ := impl.SpoiledBy(h, int64(at), int64(kind))
					var want []int64
					for other, times := range list {
						if len(spoiled) > 0 && times != lost && slices.Contains(toldWay(list, int64(other)), int64(ship)) {
							want = append(want, int64(other))
						}
					}
					same(t, name, results(impl.WrongShips(line, h, faults)), want, impl.OK)
					if len(want) == 0 {
						same(t, name, results(impl.NoticedAt(line, h, faults)), 0, impl.ErrNotFound)
						continue
					}
					same(t, name, results(impl.NoticedAt(line, h, faults)), list[ship].Flown, impl.OK)
				}
			}
		}
	}
}
