package tests

import (
	"reflect"
	"slices"
	"strings"
	"testing"

	"loop.example/g01299/impl"
)

// lineCalls returns, for some arguments, the results of all functions of chapter 6 but those with hoists.
func lineCalls(line []impl.Ship, list []impl.Times, n, more int64, text string) [][]any {
	return [][]any{
		results(impl.TimesOf(line)),
		results(impl.CheckTimes(line, list)),
		results(impl.Unreached(line)),
		results(impl.AllClosed(line)),
		results(impl.WayToShip(line, n)),
		results(impl.HauledDown(line)),
		results(impl.LastDown(line)),
		results(impl.LaterIf(line, n, more)),
		results(impl.SlackOf(line, n)),
		results(impl.ClosedUntil(line, n)),
		results(impl.WithoutShip(line, n)),
		results(impl.ReadLine(text)),
		results(impl.ValidLine(line), impl.SameTimes(list, list), impl.LineText(line), int64(impl.OK)),
	}
}

// faultCalls returns, for some arguments, the results of all functions of chapter 6 with hoists.
func faultCalls(line []impl.Ship, h impl.Hoist, faults []impl.Fault, read []impl.Hoist) [][]any {
	return [][]any{
		results(impl.ReadByAll(line, h, faults)),
		results(impl.WrongShips(line, h, faults)),
		results(impl.FirstBlamed(line, h, read)),
		results(impl.NoticedAt(line, h, faults)),
	}
}

func TestPromise1LinesAllArguments(t *testing.T) {
	texts := []string{"", "0/0/0", "6/60/60 1/2/3", "7/0/0", "0/0/0 ", "0/0", "x", "00/0/0", strings.Repeat("1/2/3 ", 20)}
	for k, line := range append(someLines(100), badLines()...) {
		for j, n := range lineExtremes {
			list := slices.Repeat([]impl.Times{lost}, max(len(line)+j%3-1, 0))
			more, text := lineExtremes[(j+5*k)%len(lineExtremes)], texts[(j+k)%len(texts)]
			first := lineCalls(line, list, n, more, text)
			second := lineCalls(slices.Clip(slices.Clone(line)), slices.Clone(list), n, more, strings.Clone(text))
			if !reflect.DeepEqual(first, second) {
				t.Fatalf("results differ: %v, %v", first, second)
			}
			zeroIfError(t, first)
		}
	}
	for _, line := range append(someLines(20), nil) {
		if one, two := lineCalls(line, nil, 0, 0, ""), lineCalls(line, []impl.Times{}, 0, 0, ""); !reflect.DeepEqual(one, two) {
			t.Errorf("nil and empty times differ: %v, %v", one, two)
		}
	}
	if one, two := lineCalls(nil, nil, 0, 0, ""), lineCalls([]impl.Ship{}, nil, 0, 0, ""); !reflect.DeepEqual(one, two) {
		t.Errorf("nil and empty lines differ: %v, %v", one, two)
	}
}

func TestPromise1FaultsAllArguments(t *testing.T) {
	seed := numbers(139)
	hoists := append(someHoists(40), badHoists()...)
	for k, line := range append(someLines(100), badLines()...) {
		for j, h := range hoists {
			if j%4 != k%4 {
				continue
			}
			faults := []impl.Fault{{Ship: int8(seed.below(256)), At: int8(seed.below(10) - 1), Kind: int8(seed.below(256))}}
			if j < 40 && j%3 > 0 && len(line) > 1 { // the hoist is valid
				lists := append(badFaults(int8(min(len(line), 20)), h), drawnFaults(&seed, len(line), h))
				faults = lists[max(seed.below(2*len(lists))-len(lists), 0)]
			}
			read := make([]impl.Hoist, max(len(line)+seed.below(2)*(seed.below(3)-1), 0))
			for i := range read {
				read[i] = hoists[seed.below(len(hoists))]
			}
			first := faultCalls(line, h, faults, read)
			second := faultCalls(slices.Clone(line), slices.Clone(h), slices.Clone(faults), copiedLists(read))
			if !reflect.DeepEqual(first, second) {
				t.Fatalf("results differ: %v, %v", first, second)
			}
			zeroIfError(t, first)
		}
	}
	line, h := lineOf("0/0/2 1/3/1"), impl.Hoist{3}
	one, two := faultCalls(line, h, nil, []impl.Hoist{h, nil}), faultCalls(line, h, []impl.Fault{}, []impl.Hoist{h, {}})
	if !reflect.DeepEqual(one, two) {
		t.Errorf("nil and empty lists differ: %v, %v", one, two)
	}
}

// TestPromise1LinesUnchanged gives the lists more capacity than length, for this must stay as it is, too.
func TestPromise1LinesUnchanged(t *testing.T) {
	seed := numbers(149)
	hoists := someHoists(200)
	for k, valid := range append(someLines(150), badLines()[:40]...) {
		line := append(slices.Clone(valid), impl.Ship{Sight: 5, Read: 50, Bend: 55}, impl.Ship{Sight: 4, Read: 40, Bend: 45})
		list := append(slices.Repeat([]impl.Times{lost}, len(valid)), impl.Times{From: 9}, impl.Times{From: 8})
		h := append(slices.Clone(hoists[k]), 30, 31, 32)
		faults := append(drawnFaults(&seed, len(valid), hoists[k]), impl.Fault{Ship: 77}, impl.Fault{Ship: 78})
		read := slices.Repeat([]impl.Hoist{h[:len(h)-3]}, len(valid)+2)
		keptLine, keptList, keptHoist, keptFaults := slices.Clone(line), slices.Clone(list), slices.Clone(h), slices.Clone(faults)
		for _, n := range []int64{-1, 0, 1, 2, 10, 19, 20, 60} {
			lineCalls(line[:len(valid)], list[:len(valid)], n, 60-n, "1/2/3")
		}
		faultCalls(line[:len(valid)], h[:len(h)-3], faults[:len(faults)-2], read[:len(valid)])
		same(t, "lists", results(line, list, h, faults, read), keptLine, keptList, keptHoist, keptFaults, slices.Repeat([]impl.Hoist{keptHoist[:len(h)-3]}, len(valid)+2))
	}
}

func TestPromise1LinesNewResults(t *testing.T) {
	text := "0/0/2 1/3/1 2/2/1 0/0/0"
	line, h, faults := lineOf(text), impl.Hoist{3, -1}, []impl.Fault{{Ship: 1, At: 0, Kind: 7}}
	bad := impl.Ship{Sight: 99}
	for range 2 { // what is done with the first results must not be seen in the second ones
		list, code := impl.TimesOf(line)
		same(t, "times", results(list, code), []impl.Times{{From: -1, Flown: 2}, {From: 0, Seen: 2, Closed: 5, Flown: 6}, {From: 0, Seen: 2, Closed: 4, Flown: 5}, lost}, impl.OK)
		spoil(list, impl.Times{From: 99})
		unreached, code := impl.Unreached(line)
		same(t, "unreached", results(unreached, code), []int64{3}, impl.OK)
		spoil(unreached, 99)
		way, code := impl.WayToShip(line, 2)
		same(t, "way", results(way, code), []int64{0, 2}, impl.OK)
		spoil(way, 99)
		down, code := impl.HauledDown(line)
		same(t, "hauled down", results(down, code), []int64{5, 6, 6, -1}, impl.OK)
		spoil(down, 99)
		for ship := range int64(4) {
			less, code := impl.WithoutShip(line, ship)
			same(t, "without a ship", results(less, code), slices.Delete(lineOf(text), int(ship), int(ship)+1), impl.OK)
			spoil(less, bad)
		}
		back, code := impl.ReadLine(text)
		same(t, "read", results(back, code), lineOf(text), impl.OK)
		spoil(back, bad)
		wrong, code := impl.WrongShips(line, h, faults)
		same(t, "wrong", results(wrong, code), []int64{1}, impl.OK)
		spoil(wrong, 99)
		want := []impl.Hoist{{3, -1}, {7, -1}, {3, -1}, nil}
		read, code := impl.ReadByAll(line, h, faults)
		same(t, "read by all", results(read, code), want, impl.OK)
		for i := range read {
			spoil(read[i], 99)
			same(t, "the others", results(read[i+1:]), want[i+1:])
		}
		spoil(read, nil)
		same(t, "the arguments", results(line, h, faults), lineOf(text), impl.Hoist{3, -1}, []impl.Fault{{Ship: 1, At: 0, Kind: 7}})
	}
}

func TestPromise1LinesOfAMillion(t *testing.T) {
	ships, times, hoists, faults := make([]impl.Ship, 333333), make([]impl.Times, 250000), make([]impl.Hoist, 1000000), make([]impl.Fault, 333333)
	for n, call := range lineCalls(ships, times, 0, 0, "0/0/0")[:11] {
		if codeOf(call) != impl.ErrInvalid {
			t.Errorf("call %d: code %d", n, codeOf(call))
		}
	}
	for n, call := range faultCalls(ships, impl.Hoist{3}, nil, hoists) {
		if codeOf(call) != impl.ErrInvalid {
			t.Errorf("call %d: code %d", n, codeOf(call))
		}
	}
	same(t, "many ships", results(impl.ValidLine(ships), impl.LineText(ships)), false, "")
	line, h := lineOf("0/0/2 1/3/1"), impl.Hoist{3}
	same(t, "many times", results(impl.CheckTimes(line, times)), false, impl.OK)
	same(t, "many hoists", results(impl.FirstBlamed(line, h, hoists)), 0, impl.ErrRange)
	same(t, "a long hoist", results(impl.FirstBlamed(line, make(impl.Hoist, 1000000), nil)), 0, impl.ErrInvalid)
	same(t, "long hoists", results(impl.FirstBlamed(line, h, []impl.Hoist{h, make(impl.Hoist, 999998)})), 1, impl.OK)
	same(t, "long hoists", results(impl.FirstBlamed(line, h, []impl.Hoist{make(impl.Hoist, 499999), make(impl.Hoist, 499999)})), 0, impl.OK)
	refusedByAll(t, "many faults", line, h, faults)
	refusedByAll(t, "many faults of one ship", line, h, slices.Repeat([]impl.Fault{{Ship: 1}}, 333333))
	same(t, "a long text", results(impl.ReadLine(strings.Repeat("0/0/0 ", 166666))), []impl.Ship(nil), impl.ErrSyntax)
}
