package tests

import (
	"fmt"
	"slices"
	"testing"

	"loop.example/g01299/impl"
)

func TestPromise13AllClosed(t *testing.T) {
	tests := []struct {
		text       string
		time, ship int64
	}{
		{"0/60/60", 0, 0}, {"0/0/9 0/9/9 1/9/9", 0, 0}, {"0/0/0 1/0/0 2/0/0", 0, 0}, {"0/0/1 1/0/0 2/0/0", 1, 1},
		{"0/0/1 1/4/0 2/4/0 3/4/0", 5, 1}, {"0/0/1 0/4/0 2/4/0 3/4/0", 5, 2}, {"0/0/1 1/3/0 2/4/0 3/4/0", 5, 2}, {"0/0/1 1/3/0 2/4/0 3/5/0", 6, 3},
		{"0/0/1 1/3/0 0/60/0 3/2/0", 4, 1}, {"0/0/0 1/0/1 1/0/0 1/0/0", 1, 2},
	}
	for _, test := range tests {
		same(t, test.text, results(impl.AllClosed(lineOf(test.text))), test.time, test.ship, impl.OK)
	}
	several := 0
	for _, line := range someLines(1000) {
		last := toldLastClosed(line)
		var ships []int64
		for ship, times := range toldTimes(line) {
			if times.Closed == last {
				ships = append(ships, int64(ship))
			}
		}
		same(t, toldLineText(line), results(impl.AllClosed(line)), last, ships[0], impl.OK)
		if len(ships) > 1 {
			several++
		}
	}
	if several < 100 {
		t.Errorf("only in %d lines several ships close up last", several)
	}
}

func TestPromise13HauledDown(t *testing.T) {
	tests := []struct {
		text string
		want []int64
	}{
		{"0/60/60", []int64{60}}, {"0/5/0", []int64{0}}, {"0/0/2 0/3/1 1/2/1", []int64{2, -1, -1}}, {"0/0/2 0/3/1 2/2/1 1/60/60", []int64{65, -1, 66, 67}},
		{"0/0/0 1/0/0 1/0/0 1/0/0", []int64{0, 1, 2, 3}}, {"0/0/2 1/1/1 2/9/1 2/0/0", []int64{11, 12, 12, 13}}, {"0/0/3 1/0/60", []int64{3, 4}}, {"0/0/3 1/0/60 1/0/0", []int64{63, 64, 65}},
		{"0/0/9 1/0/0 0/60/60 1/0/0 4/0/0", []int64{9, 10, -1, -1, 10}},
	}
	for _, test := range tests {
		line := lineOf(test.text)
		same(t, test.text, results(impl.HauledDown(line)), test.want, impl.OK)
		same(t, test.text, results(impl.LastDown(line)), slices.Max(test.want), impl.OK)
		same(t, "as told", results(toldDown(line)), test.want)
	}
	for _, line := range someLines(1000) {
		want := toldDown(line)
		same(t, toldLineText(line), results(impl.HauledDown(line)), want, impl.OK)
		same(t, toldLineText(line), results(impl.LastDown(line)), slices.Max(want), impl.OK)
	}
}

// TestPromise13AllHaveClosedUp holds the times of hauling down against the guarantees.
func TestPromise13AllHaveClosedUp(t *testing.T) {
	for _, line := range someLines(1000) {
		name := toldLineText(line)
		down, _ := impl.HauledDown(line)
		list, _ := impl.TimesOf(line)
		unreached, _ := impl.Unreached(line)
		closed, code := impl.ClosedUntil(line, down[0])
		same(t, name, results(closed, code), len(line)-len(unreached), impl.OK)
		for ship, at := range down {
			switch times := list[ship]; {
			case slices.Contains(unreached, int64(ship)):
				same(t, fmt.Sprint(name, ", ship ", ship), results(at), -1)
			case ship > 0:
				same(t, fmt.Sprint(name, ", ship ", ship), results(at), down[times.From]+1)
			case at < times.Flown:
				t.Errorf("%s: hauled down at %d, before it is flown", name, at)
			}
		}
	}
}

func TestPromise13ClosedUntil(t *testing.T) {
	for _, line := range someLines(200) {
		list := toldTimes(line)
		times := slices.Clone(lineExtremes)
		for _, one := range list {
			times = append(times, one.Seen, one.Closed-1, one.Closed, one.Closed+1, one.Flown)
		}
		for _, time := range times {
			name := fmt.Sprint(toldLineText(line), ", time ", time)
			if time < 0 || time > 1000000 {
				same(t, name, results(impl.ClosedUntil(line, time)), 0, impl.ErrRange)
				continue
			}
			count := 0
			for _, one := range list {
				if one != lost && one.Closed <= time {
					count++
				}
			}
			same(t, name, results(impl.ClosedUntil(line, time)), count, impl.OK)
		}
	}
	line := lineOf("0/0/2 1/3/1 2/2/1 0/0/0 1/0/0")
	for time, want := range []int64{1, 1, 1, 1, 2, 3, 3} {
		same(t, fmt.Sprint("by hand, time ", time), results(impl.ClosedUntil(line, int64(time))), want, impl.OK)
	}
	for _, time := range []int64{-1, 1000001} {
		same(t, fmt.Sprint("time ", time), results(impl.ClosedUntil(line, time)), 0, impl.ErrRange)
	}
	same(t, "the greatest time", results(impl.ClosedUntil(line, 1000000)), 3, impl.OK)
	same(t, "all at once", results(impl.ClosedUntil(lineOf("0/9/0 1/0/0 1/0/0"), 0)), 3, impl.OK)
}

func TestPromise13WithoutShip(t *testing.T) {
	for _, line := range someLines(200) {
		for _, ship := range append(lineExtremes, int64(len(line))-1, int64(len(line))) {
			name := fmt.Sprint(toldLineText(line), ", ship ", ship)
			switch {
			case ship < 0 || ship >= int64(len(line)):
				same(t, name, results(impl.WithoutShip(line, ship)), []impl.Ship(nil), impl.ErrRange)
			case len(line) == 1:
				same(t, name, results(impl.WithoutShip(line, ship)), []impl.Ship(nil), impl.ErrState)
			default:
				var want []impl.Ship
				for i, one := range line {
					if int64(i) != ship {
						want = append(want, one)
					}
				}
				same(t, name, results(impl.WithoutShip(line, ship)), want, impl.OK)
			}
		}
	}
	only := lineOf("3/4/5")
	same(t, "the only ship", results(impl.WithoutShip(only, 0)), []impl.Ship(nil), impl.ErrState)
	same(t, "none, of one", results(impl.WithoutShip(only, 1)), []impl.Ship(nil), impl.ErrRange)
	same(t, "none, of one", results(impl.WithoutShip(only, -1)), []impl.Ship(nil), impl.ErrRange)
	tests := []struct {
		text, less string
		ship       int64
		want       []impl.Times
	}{
		{"0/9/9 1/3/1 1/2/1", "1/3/1 1/2/1", 0, []impl.Times{{From: -1, Flown: 1}, {From: 0, Seen: 1, Closed: 3, Flown: 4}}},
		{"0/0/2 1/3/1 1/2/1", "0/0/2 1/2/1", 1, []impl.Times{{From: -1, Flown: 2}, {From: 0, Seen: 2, Closed: 4, Flown: 5}}},
		{"0/0/2 0/3/1 1/2/1", "0/0/2 1/2/1", 1, []impl.Times{{From: -1, Flown: 2}, {From: 0, Seen: 2, Closed: 4, Flown: 5}}},
		{"0/0/2 0/3/1 2/2/1 1/0/0", "0/0/2 0/3/1 1/0/0", 2, []impl.Times{{From: -1, Flown: 2}, lost, lost}},
		{"0/0/2 1/3/1", "0/0/2", 1, []impl.Times{{From: -1, Flown: 2}}},
	}
	for _, test := range tests {
		less, code := impl.WithoutShip(lineOf(test.text), test.ship)
		same(t, test.text, results(less, code), lineOf(test.less), impl.OK)
		same(t, test.text, results(impl.TimesOf(less)), test.want, impl.OK)
	}
}
