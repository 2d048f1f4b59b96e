package tests

import (
	"fmt"
	"slices"
	"testing"

	"loop.example/g01299/impl"
)

func TestPromise13Example(t *testing.T) {
	line, code := impl.ReadLine("0/0/2 1/3/1 2/2/1")
	same(t, "line", results(line, code), []impl.Ship{{Sight: 0, Read: 0, Bend: 2}, {Sight: 1, Read: 3, Bend: 1}, {Sight: 2, Read: 2, Bend: 1}}, impl.OK)
	want := []impl.Times{{From: -1, Seen: 0, Closed: 0, Flown: 2}, {From: 0, Seen: 2, Closed: 5, Flown: 6}, {From: 0, Seen: 2, Closed: 4, Flown: 5}}
	same(t, "times", results(impl.TimesOf(line)), want, impl.OK)
	same(t, "all closed", results(impl.AllClosed(line)), 5, 1, impl.OK)
	same(t, "hauled down", results(impl.HauledDown(line)), []int64{5, 6, 6}, impl.OK)
}

func TestPromise13Constants(t *testing.T) {
	same(t, "constants", results(int64(impl.MaxShips), int64(impl.MaxSight), int64(impl.MaxPause)), 20, 6, 60)
}

func TestPromise13ValidLine(t *testing.T) {
	for number := -128; number < 128; number++ {
		n := int8(number)
		for k, ship := range []impl.Ship{{Sight: n, Read: 60, Bend: 60}, {Sight: 6, Read: n, Bend: 60}, {Sight: 6, Read: 60, Bend: n}, {Sight: n}, {Read: n}, {Bend: n}} {
			want := number >= 0 && (number <= 6 || number <= 60 && k%3 > 0)
			for at := range 4 {
				line := make([]impl.Ship, 4)
				line[at] = ship
				same(t, fmt.Sprint("ship ", at, " of four: ", ship), results(impl.ValidLine(line), toldValidLine(line)), want, want)
			}
			same(t, fmt.Sprint("the only ship: ", ship), results(impl.ValidLine([]impl.Ship{ship})), want)
		}
	}
	for length := range 300 {
		same(t, fmt.Sprint("ships: ", length), results(impl.ValidLine(make([]impl.Ship, length))), length >= 1 && length <= 20)
	}
	for k, line := range someLines(200) {
		same(t, fmt.Sprint("line ", k), results(impl.ValidLine(line)), true)
	}
	for k, line := range badLines() {
		same(t, fmt.Sprint("invalid line ", k), results(impl.ValidLine(line), toldValidLine(line)), false, false)
	}
}

func TestPromise13TimesByHand(t *testing.T) {
	tests := []struct {
		text string
		want []impl.Times
	}{
		{"0/0/0", []impl.Times{{From: -1}}},
		{"6/60/60", []impl.Times{{From: -1, Flown: 60}}},
		{"0/60/3 1/0/0", []impl.Times{{From: -1, Flown: 3}, {From: 0, Seen: 3, Closed: 3, Flown: 3}}},
		{"0/0/3 0/1/1", []impl.Times{{From: -1, Flown: 3}, lost}},
		{"0/0/3 0/1/1 1/1/1 2/1/1", []impl.Times{{From: -1, Flown: 3}, lost, lost, lost}},
		{"0/0/3 0/1/1 2/1/2 1/1/1", []impl.Times{{From: -1, Flown: 3}, lost, {From: 0, Seen: 3, Closed: 4, Flown: 6}, {From: 2, Seen: 6, Closed: 7, Flown: 8}}},
		{"0/0/0 0/0/0 1/0/0 3/0/0", []impl.Times{{From: -1}, lost, lost, {From: 0}}},
		{"0/0/1 6/2/3 6/1/1", []impl.Times{{From: -1, Flown: 1}, {From: 0, Seen: 1, Closed: 3, Flown: 6}, {From: 0, Seen: 1, Closed: 2, Flown: 3}}},
		{"0/0/1 1/2/2 2/3/1 2/0/0", []impl.Times{{From: -1, Flown: 1}, {From: 0, Seen: 1, Closed: 3, Flown: 5}, {From: 0, Seen: 1, Closed: 4, Flown: 5}, {From: 1, Seen: 5, Closed: 5, Flown: 5}}},
		{"0/0/1 1/2/3 2/3/1 2/0/0", []impl.Times{{From: -1, Flown: 1}, {From: 0, Seen: 1, Closed: 3, Flown: 6}, {From: 0, Seen: 1, Closed: 4, Flown: 5}, {From: 2, Seen: 5, Closed: 5, Flown: 5}}},
		{"0/0/1 0/0/0 2/3/1 2/0/0", []impl.Times{{From: -1, Flown: 1}, lost, {From: 0, Seen: 1, Closed: 4, Flown: 5}, {From: 2, Seen: 5, Closed: 5, Flown: 5}}},
		{"0/0/0 1/0/0 1/0/0 2/0/0 4/0/0", []impl.Times{{From: -1}, {From: 0}, {From: 1}, {From: 1}, {From: 0}}},
	}
	for _, test := range tests {
		line := lineOf(test.text)
		same(t, test.text, results(impl.TimesOf(line)), test.want, impl.OK)
		same(t, test.text, results(impl.CheckTimes(line, test.want)), true, impl.OK)
		same(t, "as told", results(toldTimes(line)), test.want)
	}
}

func TestPromise13Times(t *testing.T) {
	ties, gone := 0, 0
	for _, line := range someLines(1000) {
		want := toldTimes(line)
		name := toldLineText(line)
		same(t, name, results(impl.TimesOf(line)), want, impl.OK)
		same(t, name, results(impl.CheckTimes(line, slices.Clone(want))), true, impl.OK)
		var unreached []int64
		for ship, times := range want {
			if times == lost {
				unreached = append(unreached, int64(ship))
				continue
			}
			for i := range ship {
				if want[i].Flown == times.Seen && i > int(times.From) && ship-i <= int(line[ship].Sight) {
					ties++
				}
			}
		}
		same(t, name, results(impl.Unreached(line)), unreached, impl.OK)
		gone += len(unreached)
	}
	if ties < 300 || gone < 300 {
		t.Errorf("%d ties, %d ships that are not reached", ties, gone)
	}
}

// TestPromise13NoneReadsBeforeItsFromFlies holds the times against the guarantees, not against another way to compute them.
func TestPromise13NoneReadsBeforeItsFromFlies(t *testing.T) {
	for _, line := range someLines(1000) {
		list, _ := impl.TimesOf(line)
		down, _ := impl.HauledDown(line)
		for ship, times := range list {
			if times == lost || ship == 0 {
				continue
			}
			from := list[times.From]
			if times.Seen != from.Flown || times.Closed-times.Seen != int64(line[ship].Read) || times.Flown-times.Closed != int64(line[ship].Bend) {
				t.Errorf("%s, ship %d: %v, from %v", toldLineText(line), ship, times, from)
			}
			if times.Closed > down[0] || from.Flown > times.Closed {
				t.Errorf("%s, ship %d: closed up at %d, but it flies from %d, and the first one hauls down at %d", toldLineText(line), ship, times.Closed, from.Flown, down[0])
			}
		}
	}
}

func TestPromise13Longest(t *testing.T) {
	line := slices.Repeat([]impl.Ship{{Sight: 1, Read: 60, Bend: 60}}, 20)
	list, code := impl.TimesOf(line)
	same(t, "the last ship", results(list[19], code), impl.Times{From: 18, Seen: 60 + 18*120, Closed: 60 + 18*120 + 60, Flown: 60 + 19*120}, impl.OK)
	same(t, "all closed", results(impl.AllClosed(line)), 60+18*120+60, 19, impl.OK)
	same(t, "last down", results(impl.LastDown(line)), 60+18*120+60+19, impl.OK)
	way, code := impl.WayToShip(line, 19)
	same(t, "over all ships", results(int64(len(way)), way[0], way[10], way[19], code), 20, 0, 10, 19, impl.OK)
}

func TestPromise13SameTimes(t *testing.T) {
	lists := [][]impl.Times{nil, {{}}, {{From: 1}}, {{Seen: 1}}, {{Closed: 1}}, {{Flown: 1}}, {lost}, {{}, {}}, {{}, lost}, {lost, {}}, make([]impl.Times, 20), make([]impl.Times, 21), make([]impl.Times, 250000), {{From: -128, Flown: 1 << 40}}}
	for i, a := range lists {
		for j, b := range lists {
			same(t, fmt.Sprint("lists ", i, j), results(impl.SameTimes(a, slices.Clone(b))), i == j)
		}
	}
	same(t, "nil and empty lists", results(impl.SameTimes(nil, []impl.Times{}), impl.SameTimes([]impl.Times{}, nil)), true, true)
	long := make([]impl.Times, 250000)
	long[249999].Flown = 1
	same(t, "another last entry", results(impl.SameTimes(long, make([]impl.Times, 250000))), false)
}

// wrongTimes returns lists that differ from right times in one field of one ship, or in their length.
func wrongTimes(list []impl.Times) [][]impl.Times {
	wrong := [][]impl.Times{nil, list[1:], list[:len(list)-1], append(slices.Clone(list), impl.Times{}), append(slices.Clone(list), lost), append(slices.Clone(list), list...)}
	for ship := range list {
		for _, by := range []int64{-2, -1, 1, 2, 60} {
			one := slices.Repeat([][]impl.Times{list}, 4)
			for field := range one {
				one[field] = slices.Clone(list)
			}
			one[0][ship].From += int8(by)
			one[1][ship].Seen += by
			one[2][ship].Closed += by
			one[3][ship].Flown += by
			wrong = append(wrong, one...)
		}
		for _, times := range []impl.Times{{}, lost, {From: -1}} {
			if other := slices.Clone(list); other[ship] != times {
				other[ship] = times
				wrong = append(wrong, other)
			}
		}
	}
	return wrong
}

func TestPromise13CheckTimes(t *testing.T) {
	lines := append(someLines(100), lineOf("0/0/2 1/3/1 2/2/1"), lineOf("0/0/3 0/1/1 1/1/1 2/1/1"), lineOf("0/0/0"), lineOf("0/0/0 1/0/0 2/0/0 1/0/0"))
	for _, line := range lines {
		list := toldTimes(line)
		for k, wrong := range wrongTimes(list) {
			same(t, fmt.Sprint(toldLineText(line), ", wrong ", k), results(impl.CheckTimes(line, wrong)), false, impl.OK)
		}
	}
	line := lineOf("0/0/1 1/2/2 2/3/1 2/0/0")
	list := toldTimes(line)
	list[3].From = 2 // it flies at the same time, but the least number counts
	same(t, "another one that flies at the time", results(impl.CheckTimes(line, list)), false, impl.OK)
	later := lineOf("0/0/1 1/2/4 1/1/1")
	list = toldTimes(later)
	list[1].Flown, list[2] = 3, impl.Times{From: 1, Seen: 3, Closed: 4, Flown: 5}
	same(t, "wrong, and what follows from it", results(impl.CheckTimes(later, list)), false, impl.OK)
	for k, bad := range badLines() {
		same(t, fmt.Sprint("invalid line ", k), results(impl.CheckTimes(bad, nil)), false, impl.ErrInvalid)
		same(t, fmt.Sprint("invalid line ", k), results(impl.CheckTimes(bad, slices.Repeat([]impl.Times{lost}, len(bad)))), false, impl.ErrInvalid)
	}
}

func TestPromise13Ways(t *testing.T) {
	for _, line := range someLines(400) {
		list := toldTimes(line)
		for _, ship := range append(lineExtremes, int64(len(line))-1, int64(len(line))) {
			name := fmt.Sprint(toldLineText(line), ", ship ", ship)
			switch {
			case ship < 0 || ship >= int64(len(line)):
				same(t, name, results(impl.WayToShip(line, ship)), []int64(nil), impl.ErrRange)
			case list[ship] == lost:
				same(t, name, results(impl.WayToShip(line, ship)), []int64(nil), impl.ErrNotFound)
			default:
				same(t, name, results(impl.WayToShip(line, ship)), toldWay(list, ship), impl.OK)
			}
		}
	}
	line := lineOf("0/0/2 1/3/1 2/2/1 1/0/0 1/0/0 0/0/0 1/0/0")
	for ship, want := range [][]int64{{0}, {0, 1}, {0, 2}, {0, 2, 3}, {0, 2, 3, 4}} {
		same(t, fmt.Sprint("by hand, ship ", ship), results(impl.WayToShip(line, int64(ship))), want, impl.OK)
	}
	same(t, "a ship that sees none", results(impl.WayToShip(line, 5)), []int64(nil), impl.ErrNotFound)
	same(t, "one that sees only that", results(impl.WayToShip(line, 6)), []int64(nil), impl.ErrNotFound)
	same(t, "behind the last one", results(impl.WayToShip(line, 7)), []int64(nil), impl.ErrRange)
}

// TestPromise13Invalid calls all functions with invalid lines, also with numbers and other arguments that are wrong.
func TestPromise13Invalid(t *testing.T) {
	for k, bad := range badLines() {
		name := fmt.Sprint("invalid line ", k)
		var none []int64
		same(t, name, results(impl.TimesOf(bad)), []impl.Times(nil), impl.ErrInvalid)
		same(t, name, results(impl.Unreached(bad)), none, impl.ErrInvalid)
		same(t, name, results(impl.AllClosed(bad)), 0, 0, impl.ErrInvalid)
		same(t, name, results(impl.HauledDown(bad)), none, impl.ErrInvalid)
		same(t, name, results(impl.LastDown(bad)), 0, impl.ErrInvalid)
		for _, n := range []int64{-1, 0, 1, 2, int64(len(bad)), 61, 1000001} {
			same(t, name, results(impl.WayToShip(bad, n)), none, impl.ErrInvalid)
			same(t, name, results(impl.ClosedUntil(bad, n)), 0, impl.ErrInvalid)
			same(t, name, results(impl.WithoutShip(bad, n)), []impl.Ship(nil), impl.ErrInvalid)
		}
	}
}
