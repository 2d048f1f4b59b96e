package tests

import (
	"math"
	"regexp"
	"slices"
	"strconv"
	"strings"

	"loop.example/g01299/impl"
)

// lineExtremes are numbers at and around all bounds of chapter 6, numbers that are other ones in fewer bits, and the ends of int64.
var lineExtremes = []int64{math.MinInt64, math.MinInt64 + 1, -256, -255, -2, -1, 0, 1, 2, 3, 18, 19, 20, 21, 59, 60, 61, 127, 128, 255, 256, 257, 999999, 1000000, 1000001, 1 << 32, 1<<32 + 1, math.MaxInt64}

// linePattern is that of the texts of lines, but for how many ships there are.
var linePattern = regexp.MustCompile(`^[0-6]/(\d|[1-5]\d|60)/(\d|[1-5]\d|60)( [0-6]/(\d|[1-5]\d|60)/(\d|[1-5]\d|60))*$`)

// lost are the times of a ship that is not reached.
var lost = impl.Times{From: -1, Seen: -1, Closed: -1, Flown: -1}

// toldLine returns the line with a text, and whether there is one.
func toldLine(text string) ([]impl.Ship, bool) {
	if !linePattern.MatchString(text) || strings.Count(text, " ") > 19 {
		return nil, false
	}
	var line []impl.Ship
	for word := range strings.FieldsSeq(text) {
		var numbers []int8
		for digits := range strings.SplitSeq(word, "/") {
			number, _ := strconv.Atoi(digits)
			numbers = append(numbers, int8(number))
		}
		line = append(line, impl.Ship{Sight: numbers[0], Read: numbers[1], Bend: numbers[2]})
	}
	return line, true
}

// lineOf returns the line with a text that is known to be right.
func lineOf(text string) []impl.Ship {
	line, valid := toldLine(text)
	if !valid {
		panic("no line: " + text)
	}
	return line
}

func toldLineText(line []impl.Ship) string {
	var words []string
	for _, ship := range line {
		words = append(words, strconv.Itoa(int(ship.Sight))+"/"+strconv.Itoa(int(ship.Read))+"/"+strconv.Itoa(int(ship.Bend)))
	}
	return strings.Join(words, " ")
}

// toldValidLine reports whether a line is valid as the document tells it.
func toldValidLine(line []impl.Ship) bool {
	for _, ship := range line {
		if min(ship.Sight, ship.Read, ship.Bend) < 0 || ship.Sight > 6 || max(ship.Read, ship.Bend) > 60 {
			return false
		}
	}
	return len(line) >= 1 && len(line) <= 20
}

// toldTimes goes from minute to minute in which a ship begins to fly the hoist, and looks which ones see it then.
func toldTimes(line []impl.Ship) []impl.Times {
	list := slices.Repeat([]impl.Times{lost}, len(line))
	list[0] = impl.Times{From: -1, Flown: int64(line[0].Bend)}
	for minute := list[0].Flown; minute < math.MaxInt64; {
		for i := range line {
			for j := range i {
				if list[i] == lost && i-j <= int(line[i].Sight) && list[j].Flown == minute {
					closed := minute + int64(line[i].Read)
					list[i] = impl.Times{From: int8(j), Seen: minute, Closed: closed, Flown: closed + int64(line[i].Bend)}
				}
			}
		}
		next := int64(math.MaxInt64)
		for _, times := range list {
			if times.Flown > minute {
				next = min(next, times.Flown)
			}
		}
		minute = next
	}
	return list
}

// toldLastClosed returns the time at which the last pennant is closed up.
func toldLastClosed(line []impl.Ship) int64 {
	last := int64(0)
	for _, times := range toldTimes(line) {
		last = max(last, times.Closed)
	}
	return last
}

// toldWay returns the ships over which a hoist comes to a ship that is reached.
func toldWay(list []impl.Times, ship int64) []int64 {
	if ship == 0 {
		return []int64{0}
	}
	return append(toldWay(list, int64(list[ship].From)), ship)
}

// toldReady tells when a ship is ready, from those that have their hoist from it.
func toldReady(list []impl.Times, ship int) int64 {
	ready := list[ship].Closed
	for i, times := range list {
		if int(times.From) == ship {
			ready = max(ready, toldReady(list, i))
		}
	}
	return ready
}

// toldDown tells when all ships haul down: each one a minute later for each ship ahead of it on its way.
func toldDown(line []impl.Ship) []int64 {
	list := toldTimes(line)
	first := max(toldReady(list, 0), list[0].Flown)
	down := make([]int64, len(line))
	for ship, times := range list {
		if down[ship] = -1; times != lost {
			down[ship] = first + int64(len(toldWay(list, int64(ship)))) - 1
		}
	}
	return down
}

// toldReading puts all faults on the way to each ship into the hoist, one after the other.
func toldReading(line []impl.Ship, h impl.Hoist, faults []impl.Fault) []impl.Hoist {
	list := toldTimes(line)
	read := make([]impl.Hoist, len(line))
	for ship, times := range list {
		if times == lost {
			continue
		}
		read[ship] = slices.Clone(h)
		for _, over := range toldWay(list, int64(ship)) {
			for _, fault := range faults {
				if int64(fault.Ship) == over {
					read[ship][fault.At] = fault.Kind
				}
			}
		}
	}
	return read
}

// toldDiffering returns all ships of a line that are reached, and have read another list than their From, and the ship 0 if it has read another one than is given.
func toldDiffering(line []impl.Ship, h impl.Hoist, read []impl.Hoist) []int64 {
	var ships []int64
	for ship, times := range toldTimes(line) {
		if times == lost {
			continue
		}
		seen := h
		if ship > 0 {
			seen = read[times.From]
		}
		if slices.Compare(seen, read[ship]) != 0 {
			ships = append(ships, int64(ship))
		}
	}
	return ships
}

// someLines returns valid lines of all lengths: with short pauses, so that many ships fly at one time, or with long ones, and with ships that are not reached.
func someLines(count int) [][]impl.Ship {
	seed := numbers(127)
	list := make([][]impl.Ship, count)
	for k := range list {
		longest := []int{1, 2, 4, 11, 61}[k%5]
		for range 1 + k%20 {
			sight := seed.below(7)
			if k%3 == 1 {
				sight = seed.below(3)
			}
			list[k] = append(list[k], impl.Ship{Sight: int8(sight), Read: int8(seed.below(longest)), Bend: int8(seed.below(longest))})
		}
	}
	return list
}

// badLines returns lines each of which is not valid for one reason.
func badLines() [][]impl.Ship {
	list := [][]impl.Ship{nil, {}, make([]impl.Ship, 21), make([]impl.Ship, 22), make([]impl.Ship, 256), make([]impl.Ship, 257), make([]impl.Ship, 276), slices.Repeat([]impl.Ship{{Sight: 6, Read: 60, Bend: 60}}, 21)}
	bad := []impl.Ship{{Sight: -1}, {Sight: 7}, {Sight: -128}, {Sight: 127}, {Read: -1}, {Read: 61}, {Read: -128}, {Read: 127}, {Bend: -1}, {Bend: 61}, {Bend: -128}, {Bend: 127}}
	for _, ship := range bad {
		list = append(list, []impl.Ship{ship}, []impl.Ship{ship, {Sight: 1}, {Sight: 2}}, []impl.Ship{{}, ship, {Sight: 1}}, []impl.Ship{{}, {}, ship}, append(make([]impl.Ship, 19), ship))
	}
	return list
}

// placesOfFlags returns the places of a hoist at which there are flags.
func placesOfFlags(h impl.Hoist) []int8 {
	var places []int8
	for at, number := range h {
		if number >= 0 {
			places = append(places, int8(at))
		}
	}
	return places
}

// drawnFaults returns valid faults of some ships of a line with so many, often at one place, so that some undo others, and some take a flag for itself.
func drawnFaults(seed *numbers, ships int, h impl.Hoist) []impl.Fault {
	var faults []impl.Fault
	places := placesOfFlags(h)
	most := 1 + seed.below(len(places))
	for ship := 1; ship < ships; ship++ {
		if seed.below(3) > 0 {
			at := places[seed.below(most)]
			kinds := []int8{h[at], h[0], 0, 39, 7}
			faults = append(faults, impl.Fault{Ship: int8(ship), At: at, Kind: kinds[seed.below(5)]})
		}
	}
	for i := range faults { // their order is not told
		j := seed.below(i + 1)
		faults[i], faults[j] = faults[j], faults[i]
	}
	return faults
}

// badFaults returns lists of faults that are not valid for one reason, for a line with so many ships, of two at least, and a hoist.
func badFaults(ships int8, h impl.Hoist) [][]impl.Fault {
	at := placesOfFlags(h)[0]
	list := [][]impl.Fault{
		{{Ship: 1, At: at, Kind: 3}, {Ship: 1, At: at, Kind: 3}}, {{Ship: 1, At: at, Kind: 3}, {Ship: 1, At: placesOfFlags(h)[len(placesOfFlags(h))-1], Kind: 4}},
		slices.Repeat([]impl.Fault{{Ship: 1, At: at}}, 20), slices.Repeat([]impl.Fault{{Ship: 1, At: at}}, 21), slices.Repeat([]impl.Fault{{Ship: 1, At: at}}, 257),
	}
	for _, ship := range []int8{-128, -1, 0, ships, ships + 1, 20, 127} {
		if ship < 1 || ship >= ships {
			list = append(list, []impl.Fault{{Ship: ship, At: at, Kind: 3}})
		}
	}
	for number := -128; number < 128; number++ {
		if !slices.Contains(placesOfFlags(h), int8(number)) {
			list = append(list, []impl.Fault{{Ship: 1, At: int8(number), Kind: 3}})
		}
		if number < 0 || number > 39 {
			list = append(list, []impl.Fault{{Ship: 1, At: at, Kind: int8(number)}})
		}
	}
	for _, bad := range slices.Clone(list[5:]) {
		if bad[0].Ship != ships-1 {
			list = append(list, append([]impl.Fault{{Ship: ships - 1, At: at, Kind: 3}}, bad...))
		}
	}
	return list
}
