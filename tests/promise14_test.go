package tests

import (
	"fmt"
	"slices"
	"testing"

	"loop.example/g01299/impl"
)

// toldLater returns by how much later all have closed up if a ship needs so many minutes more.
func toldLater(line []impl.Ship, ship, more int64) int64 {
	slower := slices.Clone(line)
	slower[ship].Read += int8(more)
	return toldLastClosed(slower) - toldLastClosed(line)
}

func TestPromise14Example(t *testing.T) {
	line := lineOf("0/0/2 1/3/1 2/2/1")
	same(t, "slack of the ship 2", results(impl.SlackOf(line, 2)), 1, impl.OK)
	same(t, "no later", results(impl.LaterIf(line, 2, 1)), 0, impl.OK)
	same(t, "later", results(impl.LaterIf(line, 2, 2)), 1, impl.OK)
	same(t, "the last one", results(impl.SlackOf(line, 1)), 0, impl.OK)
	same(t, "the last one", results(impl.LaterIf(line, 1, 4)), 4, impl.OK)
}

func TestPromise14ByHand(t *testing.T) {
	tests := []struct {
		text                     string
		ship, slack, one, theMax int64
	}{
		{"0/9/9", 0, 60, 0, 0}, {"0/0/2 1/3/1 2/2/1", 0, 60, 0, 0},
		{"0/0/2 0/3/1 2/2/1", 1, 60, 0, 0}, {"0/0/2 0/3/1 2/2/1", 2, 0, 1, 60}, {"0/0/2 0/3/1 1/2/1", 2, 60, 0, 0},
		{"0/0/0 1/60/0 2/0/0", 2, 60, 0, 0}, {"0/0/0 1/60/0 2/1/0", 2, 59, 0, 1}, {"0/0/0 1/59/0 2/0/0", 2, 59, 0, 1}, {"0/0/0 1/58/0 2/0/0", 2, 58, 0, 2},
		{"0/0/0 1/60/60 1/60/60 3/0/0", 3, 60, 0, 0}, {"0/0/0 1/4/0 2/4/0", 1, 0, 1, 60}, {"0/0/0 1/4/0 2/4/0", 2, 0, 1, 60},
		{"0/0/0 1/60/0", 1, 0, 1, 60}, {"0/0/0 1/60/60 1/60/0", 1, 0, 1, 60},
		{"0/0/0 1/1/1 2/4/1 2/9/0", 1, 0, 1, 50}, {"0/0/0 1/1/1 0/4/1 2/9/0", 1, 0, 1, 60}, {"0/0/0 1/0/0 2/9/0 2/5/0", 1, 4, 0, 51}, {"0/0/0 1/0/0 2/0/3 2/5/0", 1, 0, 1, 55},
	}
	for _, test := range tests {
		line := lineOf(test.text)
		name := fmt.Sprint(test.text, ", ship ", test.ship)
		same(t, name, results(impl.SlackOf(line, test.ship)), test.slack, impl.OK)
		same(t, name, results(impl.LaterIf(line, test.ship, 0)), 0, impl.OK)
		same(t, name, results(impl.LaterIf(line, test.ship, 1)), test.one, impl.OK)
		same(t, name, results(impl.LaterIf(line, test.ship, 60)), test.theMax, impl.OK)
	}
}

func TestPromise14NoEarlier(t *testing.T) {
	slacks := map[int64]int{}
	for _, line := range someLines(200) {
		list := toldTimes(line)
		for ship := range int64(len(line)) {
			name := fmt.Sprint(toldLineText(line), ", ship ", ship)
			slack, before := int64(0), int64(0)
			for more := range int64(61) {
				later, code := impl.LaterIf(line, ship, more)
				same(t, fmt.Sprint(name, ", more: ", more), results(later, code), toldLater(line, ship, more), impl.OK)
				if later < before || later > before+1 || (ship == 0 || list[ship] == lost) && later != 0 {
					t.Errorf("%s: later by %d if it is slower by %d, by %d if it is less so", name, later, more, before)
				}
				if before = later; later == 0 {
					slack = more
				}
			}
			same(t, name, results(impl.SlackOf(line, ship)), slack, impl.OK)
			slacks[min(slack, 1)+slack/59]++
		}
	}
	for _, kind := range []int64{0, 1, 2} { // a slack of 0, of less than 59, and of 59 or 60
		if slacks[kind] < 30 {
			t.Errorf("only %d slacks of the kind %d", slacks[kind], kind)
		}
	}
}

// TestPromise14LessIsNoLater makes ships faster instead, which is the same read the other way round.
func TestPromise14LessIsNoLater(t *testing.T) {
	for _, line := range someLines(400) {
		time, _, _ := impl.AllClosed(line)
		for ship, one := range line {
			faster := slices.Clone(line)
			faster[ship].Read = one.Read / 2
			less, _, code := impl.AllClosed(faster)
			if code != impl.OK || less > time {
				t.Errorf("%s: ship %d faster: %d, not %d", toldLineText(line), ship, less, time)
			}
			same(t, toldLineText(line), results(impl.LaterIf(faster, int64(ship), int64(one.Read-one.Read/2))), time-less, impl.OK)
		}
	}
}

func TestPromise14Errors(t *testing.T) {
	for k, line := range someLines(60) {
		for _, ship := range append(lineExtremes, int64(len(line))-1, int64(len(line))) {
			name := fmt.Sprint("line ", k, ", ship ", ship)
			is := ship >= 0 && ship < int64(len(line))
			if slack, code := impl.SlackOf(line, ship); (code == impl.OK) != is || !is && (code != impl.ErrRange || slack != 0) {
				t.Errorf("%s: slack %d, code %d", name, slack, code)
			}
			for _, more := range lineExtremes {
				if is && more >= 0 && more <= 60 {
					same(t, name, results(impl.LaterIf(line, ship, more)), toldLater(line, ship, more), impl.OK)
					continue
				}
				same(t, name, results(impl.LaterIf(line, ship, more)), 0, impl.ErrRange)
			}
		}
	}
	line := lineOf("0/0/2 1/3/1 0/2/1")
	for _, ship := range []int64{0, 1, 2} { // the ship 2 is not reached
		same(t, "more than there may be", results(impl.LaterIf(line, ship, 61)), 0, impl.ErrRange)
		same(t, "less than none", results(impl.LaterIf(line, ship, -1)), 0, impl.ErrRange)
	}
	for k, bad := range badLines() {
		for _, ship := range []int64{-1, 0, 1, int64(len(bad))} {
			same(t, fmt.Sprint("invalid line ", k), results(impl.SlackOf(bad, ship)), 0, impl.ErrInvalid)
			for _, more := range []int64{-1, 0, 61} {
				same(t, fmt.Sprint("invalid line ", k), results(impl.LaterIf(bad, ship, more)), 0, impl.ErrInvalid)
			}
		}
	}
}
