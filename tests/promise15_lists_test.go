package tests

import (
	"fmt"
	"slices"
	"testing"

	"loop.example/g01299/impl"
)

func TestPromise15BlamedByHand(t *testing.T) {
	line, h := lineOf("0/0/1 1/2/1 0/0/0 2/2/1"), impl.Hoist{3, -1} // the ship 2 is not reached, and 3 has it from 1
	tests := []struct {
		read []impl.Hoist
		want int64
	}{
		{[]impl.Hoist{{3, -1}, {3, -1}, nil, {3, -1}}, -1}, {[]impl.Hoist{{3, -1}, {3, -1}, {3, -1}, {3, -1}}, -1}, {[]impl.Hoist{{3, -1}, {3, -1}, {9}, {3, -1}}, -1}, {[]impl.Hoist{{3, -1}, {3, -1}, {-100}, {3, -1}}, -1},
		{[]impl.Hoist{{3, 3}, {3, -1}, nil, {3, -1}}, 0}, {[]impl.Hoist{{3, 3}, {3, 3}, {3, 3}, {3, 3}}, 0}, {[]impl.Hoist{nil, nil, nil, nil}, 0}, {make([]impl.Hoist, 4), 0}, {[]impl.Hoist{{3}, {3, -1}, {3, -1}, {3, -1}}, 0}, {[]impl.Hoist{{3, -1, 0}, {3, -1}, {3, -1}, {3, -1}}, 0},
		{[]impl.Hoist{{3, -1}, {3, 3}, nil, {3, -1}}, 1}, {[]impl.Hoist{{3, -1}, {3, 3}, {3, 3}, {3, 3}}, 1}, {[]impl.Hoist{{3, -1}, nil, nil, nil}, 1}, {[]impl.Hoist{{3, -1}, {}, {}, {}}, 1}, {[]impl.Hoist{{3, -1}, {-100, 127}, {1}, {-100, 127}}, 1}, {[]impl.Hoist{{3, -1}, {3, -1, 0}, nil, {3, -1}}, 1},
		{[]impl.Hoist{{3, -1}, {3, -1}, nil, {3, 3}}, 3}, {[]impl.Hoist{{3, -1}, {3, -1}, nil, nil}, 3}, {[]impl.Hoist{{3, -1}, {3, -1}, {3, 3}, {3, 3}}, 3}, {[]impl.Hoist{{3, -1}, {3, -1}, {3}, {3}}, 3}, {[]impl.Hoist{{3, -1}, {3, -1}, {3}, make(impl.Hoist, 1000)}, 3},
	}
	for k, test := range tests {
		want, code := test.want, int64(impl.OK)
		if want < 0 {
			want, code = 0, impl.ErrNotFound
		}
		same(t, fmt.Sprint("list ", k), results(impl.FirstBlamed(line, h, test.read)), want, code)
	}
	alone := lineOf("6/1/1")
	same(t, "the only ship", results(impl.FirstBlamed(alone, h, []impl.Hoist{h})), 0, impl.ErrNotFound)
	same(t, "the only ship", results(impl.FirstBlamed(alone, h, []impl.Hoist{{3}})), 0, impl.OK)
	ahead := lineOf("0/0/1 1/9/9 2/1/1 3/1/1") // all have it from the ship 0
	same(t, "the one behind flies it first, but the first one of the line counts", results(impl.FirstBlamed(ahead, h, []impl.Hoist{h, {1}, {2}, {1}})), 1, impl.OK)
	same(t, "like the one ahead, but not like its From", results(impl.FirstBlamed(ahead, h, []impl.Hoist{h, h, {2}, {2}})), 2, impl.OK)
}

// TestPromise15BlamedInAnyList holds FirstBlamed against lists that no faults make.
func TestPromise15BlamedInAnyList(t *testing.T) {
	seed := numbers(137)
	hoists := append(someHoists(100), badHoists()...)
	found := map[int64]int{}
	for k, line := range someLines(1000) {
		h := hoists[k%100]
		read := make([]impl.Hoist, len(line))
		list := toldTimes(line)
		for ship := range read {
			read[ship] = h
			if seed.below(3) > 0 && ship > 0 && list[ship] != lost {
				read[ship] = read[list[ship].From]
			}
			if seed.below(8) == 0 || list[ship] == lost {
				read[ship] = hoists[seed.below(len(hoists))]
			}
		}
		want, code := firstOf(toldDiffering(line, h, read))
		same(t, fmt.Sprint("line ", k), results(impl.FirstBlamed(line, h, read)), want, code)
		found[code]++
	}
	if found[impl.OK] < 100 || found[impl.ErrNotFound] < 100 {
		t.Errorf("codes: %v", found)
	}
}

func TestPromise15BlamedErrors(t *testing.T) {
	h := impl.Hoist{3, -1}
	for k, line := range someLines(60) {
		for count := range 24 {
			if count != len(line) {
				same(t, fmt.Sprint("line ", k, ", hoists: ", count), results(impl.FirstBlamed(line, h, slices.Repeat([]impl.Hoist{h}, count))), 0, impl.ErrRange)
				same(t, fmt.Sprint("line ", k, ", empty hoists: ", count), results(impl.FirstBlamed(line, h, make([]impl.Hoist, count))), 0, impl.ErrRange)
			}
		}
		same(t, "no list", results(impl.FirstBlamed(line, h, nil)), 0, impl.ErrRange)
		for _, bad := range badHoists() {
			same(t, "invalid hoist", results(impl.FirstBlamed(line, bad, slices.Repeat([]impl.Hoist{bad}, len(line)))), 0, impl.ErrInvalid)
			same(t, "invalid hoist, and no list", results(impl.FirstBlamed(line, bad, nil)), 0, impl.ErrInvalid)
		}
	}
	for k, bad := range badLines() {
		for _, h := range []impl.Hoist{{3, -1}, {-1}} {
			same(t, fmt.Sprint("invalid line ", k), results(impl.FirstBlamed(bad, h, slices.Repeat([]impl.Hoist{h}, len(bad)))), 0, impl.ErrInvalid)
			same(t, fmt.Sprint("invalid line ", k), results(impl.FirstBlamed(bad, h, slices.Repeat([]impl.Hoist{h}, len(bad)+1))), 0, impl.ErrInvalid)
		}
	}
}

// refusedByAll checks that all functions with faults find something invalid.
func refusedByAll(t *testing.T, name string, line []impl.Ship, h impl.Hoist, faults []impl.Fault) {
	t.Helper()
	same(t, name, results(impl.ReadByAll(line, h, faults)), []impl.Hoist(nil), impl.ErrInvalid)
	same(t, name, results(impl.WrongShips(line, h, faults)), []int64(nil), impl.ErrInvalid)
	same(t, name, results(impl.NoticedAt(line, h, faults)), 0, impl.ErrInvalid)
}

func TestPromise15InvalidFaults(t *testing.T) {
	hoists := []impl.Hoist{{3}, {3, -1, 5, -3}, {1, impl.Break, 2, -1, 3}, {1, 2, 3, 4, 5, 6, 7, 8}, {39, -1, -2, -3, -4, -1, -2, 0}}
	lines := []string{"0/0/2 1/3/1 2/2/1", "0/0/2 0/3/1 1/2/1", "0/0/0 1/0/0", toldLineText(slices.Repeat([]impl.Ship{{Sight: 1}}, 20))}
	for _, text := range lines {
		line := lineOf(text)
		for _, h := range hoists {
			for k, faults := range badFaults(int8(len(line)), h) {
				refusedByAll(t, fmt.Sprint(text, ", ", toldText(h), ", faults ", k), line, h, faults)
			}
		}
	}
	only := lineOf("1/2/3")
	for ship := -128; ship < 128; ship++ { // the ship 0 alone has no faults
		refusedByAll(t, fmt.Sprint("the only ship, fault of ", ship), only, impl.Hoist{3}, []impl.Fault{{Ship: int8(ship), Kind: 3}})
	}
	h := impl.Hoist{3, -1, impl.Break, 5}
	for ship := -128; ship < 128; ship++ {
		for at := -128; at < 128; at++ {
			faults := []impl.Fault{{Ship: int8(ship), At: int8(at), Kind: 9}}
			_, code := impl.ReadByAll(lineOf(lines[1]), h, faults)
			if want := (ship == 1 || ship == 2) && (at == 0 || at == 3); want != (code == impl.OK) || !want && code != impl.ErrInvalid {
				t.Errorf("ship %d, place %d: code %d", ship, at, code)
			}
		}
	}
}

// TestPromise15MostFaults gives all ships but the first one a fault, which are the most that there can be.
func TestPromise15MostFaults(t *testing.T) {
	line := slices.Repeat([]impl.Ship{{Sight: 1, Read: 1, Bend: 1}}, 20)
	h := impl.Hoist{0, -1}
	var faults []impl.Fault
	want, wrong := []impl.Hoist{h}, []int64(nil)
	for ship := int8(1); ship < 20; ship++ {
		faults = append(faults, impl.Fault{Ship: ship, Kind: ship})
		want, wrong = append(want, impl.Hoist{ship, -1}), append(wrong, int64(ship))
	}
	same(t, "19 faults", results(impl.ReadByAll(line, h, faults)), want, impl.OK)
	same(t, "19 faults", results(impl.WrongShips(line, h, faults)), wrong, impl.OK)
	same(t, "19 faults", results(impl.NoticedAt(line, h, faults)), 3, impl.OK)
	slices.Reverse(faults)
	same(t, "in another order", results(impl.ReadByAll(line, h, faults)), want, impl.OK)
	for _, more := range []impl.Fault{{Ship: 0}, {Ship: 20}, {Ship: 1, Kind: 1}, {Ship: 19, Kind: 19}} {
		refusedByAll(t, "20 faults", line, h, append(slices.Clone(faults), more))
		refusedByAll(t, "20 faults, the other one first", line, h, append([]impl.Fault{more}, faults...))
		refusedByAll(t, "21 faults", line, h, append(slices.Clone(faults), more, more))
	}
}

// TestPromise15Invalid gives invalid lines and hoists, with faults that are valid for others, and with others.
func TestPromise15Invalid(t *testing.T) {
	lists := [][]impl.Fault{nil, {{Ship: 1, At: 0, Kind: 3}}, {{Ship: 0, At: 0, Kind: 3}}}
	for k, bad := range badLines() {
		for _, faults := range lists {
			refusedByAll(t, fmt.Sprint("invalid line ", k), bad, impl.Hoist{3}, faults)
			refusedByAll(t, fmt.Sprint("invalid line ", k, ", and an invalid hoist"), bad, nil, faults)
		}
	}
	for k, bad := range badHoists() {
		for _, faults := range lists {
			refusedByAll(t, fmt.Sprint("invalid hoist ", k), lineOf("0/0/2 1/3/1"), bad, faults)
			refusedByAll(t, fmt.Sprint("invalid hoist ", k, ", no ship is reached"), lineOf("0/0/2 0/3/1"), bad, faults)
		}
	}
}
