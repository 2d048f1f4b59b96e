package tests

import (
	"fmt"
	"slices"
	"testing"

	"loop.example/g01299/impl"
)

// hoists returns a log in which all signals from first on, and less than behind, are hoisted at one time.
func hoists(time, first, behind int64) impl.Log {
	var g impl.Log
	for signal := first; signal < behind; signal++ {
		g = append(g, impl.Entry{Time: time, Signal: signal})
	}
	return g
}

func TestPromise17BestByHand(t *testing.T) {
	tests := []struct {
		logs      []impl.Log
		best, sum int64
	}{
		{logsOf(""), 0, 0}, {logsOf("0+1 5-1"), 0, 0}, {logsOf("", ""), 0, 0}, {logsOf("0+1", "5+1"), 0, 0}, {logsOf("", "0+1"), 1, 1}, {logsOf("0+1", ""), 0, 1},
		{logsOf("0+7 9-7", "0+7 5+8 9-7", "0+7 5+8 9-7"), 1, 1}, {logsOf("0+7 5+8 9-7", "0+7 9-7", "0+7 5+8 9-7"), 0, 1}, {logsOf("0+1", "0+2"), 0, 1}, {logsOf("0+1", "0+2", "0+2"), 1, 1}, {logsOf("0+2", "0+1", "0+2"), 0, 1}, {logsOf("0+1", "0+2", "0+3"), 0, 2},
		{logsOf("0+1", "0+2", "0+1", "0+2"), 0, 2}, {logsOf("0+3", "0+1", "0+2", "0+1", "0+2"), 1, 3}, {logsOf("", "", "0+1"), 0, 2}, {logsOf("", "0+1", "0+1"), 1, 1}, {logsOf("", "", "", "0+1"), 0, 2}, {logsOf("", "0+1 0-1", "0+1"), 1, 3},
		{slices.Repeat(logsOf("0+1 5-1"), 8), 0, 0}, {append(logsOf("0+2 5-2"), slices.Repeat(logsOf("0+1 5-1"), 7)...), 1, 2}, {append(slices.Repeat(logsOf("0+1 5-1"), 4), slices.Repeat(logsOf("0+2 5-2"), 4)...), 0, 8},
		{[]impl.Log{nil, hoists(0, 0, 60)}, 1, 60}, {[]impl.Log{hoists(0, 0, 60), hoists(0, 60, 120)}, 0, 60},
	}
	for k, test := range tests {
		same(t, fmt.Sprint("logs ", k), results(impl.BestLog(test.logs)), test.best, test.sum, impl.OK)
		same(t, fmt.Sprint("told of logs ", k), results(toldBest(test.logs)), test.best, test.sum, impl.OK)
	}
}

func TestPromise17BestLog(t *testing.T) {
	ties, later := 0, 0
	for k, logs := range append(someSquadrons(500, 8), someSquadrons(24, 60)...) {
		best, sum, code := toldBest(logs)
		same(t, fmt.Sprint("logs ", k), results(impl.BestLog(logs)), best, sum, code)
		if best > 0 {
			later++
		}
		backwards := slices.Clone(logs)
		slices.Reverse(backwards)
		if other, _, _ := toldBest(backwards); int(best+other) != len(logs)-1 {
			ties++
		}
	}
	if ties < 50 || later < 50 {
		t.Errorf("%d ties, %d times not the first log", ties, later)
	}
}

func TestPromise17AgreedByHand(t *testing.T) {
	tests := []struct {
		logs   []impl.Log
		quorum int64
		want   string
		code   int64
	}{
		{logsOf("0+7 5+8 9-7"), 1, "0+7 5+8 9-7", impl.OK}, {logsOf("0+7 9-7", "0+7 5+8 9-7"), 1, "0+7 5+8 9-7", impl.OK}, {logsOf("0+7 9-7", "0+7 5+8 9-7"), 2, "0+7 9-7", impl.OK}, {logsOf("0+7 9-7", "0+7 5+8 9-7", "3+7 8+8 12-7"), 2, "0+7 9-7", impl.OK}, {logsOf("0+7 9-7", "0+7 5+8 9-7", "3+7 8+8 12-7"), 3, "", impl.OK},
		{logsOf("0+7 5+8 9-7"), 0, "", impl.ErrRange}, {logsOf("0+7 5+8 9-7"), 2, "", impl.ErrRange}, {logsOf("0+7 5+8 9-7"), -1, "", impl.ErrRange}, {logsOf("", ""), 1, "", impl.OK}, {logsOf("", ""), 2, "", impl.OK}, {logsOf("", ""), 3, "", impl.ErrRange},
		// Order: times, signals, hoists before hauls.
		{logsOf("5+3 5+1 5+2"), 1, "5+1 5+2 5+3", impl.OK}, {logsOf("5+3", "4+9", "5+1"), 1, "4+9 5+1 5+3", impl.OK}, {logsOf("5+9999 100000+10"), 1, "5+9999 100000+10", impl.OK}, {logsOf("9+1 10+2", "9+3"), 1, "9+1 9+3 10+2", impl.OK}, {logsOf("5+2 5-2 5+1 5-1"), 1, "5+1 5-1 5+2 5-2", impl.OK}, {logsOf("0+1 0-1", "0+1"), 1, "0+1 0-1", impl.OK},
		// An entry that a log has twice.
		{logsOf("5+1 5-1 5+1"), 1, "5+1 5-1", impl.OK}, {logsOf("5+1 5-1 5+1", "5+1"), 2, "5+1", impl.OK}, {logsOf("5+1 5-1 5+1", ""), 2, "", impl.OK}, {logsOf("5+1 5-1 5+1 5-1", "0+1", ""), 2, "", impl.OK},
		// What is agreed need not be valid.
		{logsOf("0+1 5-1 5+1"), 1, "", impl.ErrState}, {logsOf("0+1", "1+1"), 1, "", impl.ErrState}, {logsOf("0+1 5-1", "1+1 5-1"), 1, "", impl.ErrState}, {logsOf("0+1 5-1", "1+1 5-1"), 2, "", impl.ErrState}, {logsOf("0+1 3-1", "0+1 5-1"), 1, "", impl.ErrState}, {logsOf("0+1 3-1", "0+1 5-1"), 2, "0+1", impl.OK}, {logsOf("1+1", "0+1 3-1"), 1, "", impl.ErrState}, {logsOf("0+1 2-1 3+1", "2+1 3-1"), 1, "", impl.ErrState},
		{logsOf("0+1 4-1", "4+1 6-1"), 1, "", impl.ErrState}, {logsOf("0+1 4-1", "5+1 6-1"), 1, "0+1 4-1 5+1 6-1", impl.OK},
		{slices.Repeat(logsOf("0+1"), 8), 8, "0+1", impl.OK}, {slices.Repeat(logsOf("0+1"), 8), 9, "", impl.ErrRange}, {append(slices.Repeat(logsOf("0+1"), 7), nil), 8, "", impl.OK}, {append(slices.Repeat(logsOf("0+1"), 7), nil), 7, "0+1", impl.OK}, {slices.Repeat(logsOf("0+1"), 9), 1, "", impl.ErrRange}, {nil, 1, "", impl.ErrRange}, {nil, 0, "", impl.ErrRange},
	}
	for k, test := range tests {
		same(t, fmt.Sprint("logs ", k), results(impl.AgreedLog(test.logs, test.quorum)), logOf(test.want), test.code)
	}
}

func TestPromise17AgreedLimit(t *testing.T) {
	tests := []struct {
		name   string
		logs   []impl.Log
		quorum int64
		want   impl.Log
		code   int64
	}{
		{"60 in one", []impl.Log{hoists(0, 0, 60)}, 1, hoists(0, 0, 60), impl.OK}, {"60 in both", []impl.Log{hoists(0, 0, 60), hoists(0, 0, 60)}, 1, hoists(0, 0, 60), impl.OK}, {"60 in both", []impl.Log{hoists(0, 0, 60), hoists(0, 0, 60)}, 2, hoists(0, 0, 60), impl.OK},
		{"60 of two", []impl.Log{hoists(0, 30, 60), hoists(0, 0, 40)}, 1, hoists(0, 0, 60), impl.OK}, {"61 of two", []impl.Log{hoists(0, 30, 61), hoists(0, 0, 40)}, 1, nil, impl.ErrLimit}, {"61 of two, but some of one", []impl.Log{hoists(0, 1, 61), hoists(0, 0, 60)}, 2, hoists(0, 1, 60), impl.OK}, {"61 of two", []impl.Log{hoists(0, 1, 61), hoists(0, 0, 60)}, 1, nil, impl.ErrLimit},
		{"60 of three", []impl.Log{hoists(0, 0, 20), hoists(0, 20, 40), hoists(0, 40, 60)}, 1, hoists(0, 0, 60), impl.OK}, {"120", []impl.Log{hoists(0, 0, 60), hoists(0, 60, 120)}, 1, nil, impl.ErrLimit}, {"480", []impl.Log{hoists(0, 0, 60), hoists(1, 0, 60), hoists(2, 0, 60), hoists(3, 0, 60), hoists(4, 0, 60), hoists(5, 0, 60), hoists(6, 0, 60), hoists(7, 0, 60)}, 1, nil, impl.ErrLimit},
		{"60 that are not valid", []impl.Log{hoists(0, 0, 59), hoists(1, 58, 59)}, 1, nil, impl.ErrState}, {"61 that are not valid", []impl.Log{hoists(0, 0, 60), hoists(1, 59, 60)}, 1, nil, impl.ErrLimit}, {"61, but the quorum is none", []impl.Log{hoists(0, 0, 60), hoists(1, 59, 60)}, 0, nil, impl.ErrRange}, {"61, but the quorum is none", []impl.Log{hoists(0, 0, 60), hoists(1, 59, 60)}, 3, nil, impl.ErrRange},
	}
	for _, test := range tests {
		same(t, test.name, results(impl.AgreedLog(test.logs, test.quorum)), test.want, test.code)
	}
}

func TestPromise17AgreedLog(t *testing.T) {
	codes := map[int64]int{}
	for k, logs := range append(someSquadrons(800, 6), someSquadrons(80, 60)...) {
		for _, quorum := range append(logExtremes, 4, 5, 6, int64(len(logs)), int64(len(logs))+1) {
			var want impl.Log
			code := int64(impl.ErrRange)
			if quorum >= 1 && quorum <= int64(len(logs)) {
				want, code = toldAgreed(logs, quorum)
				codes[code]++
			}
			same(t, fmt.Sprint("logs ", k, ", quorum ", quorum), results(impl.AgreedLog(logs, quorum)), want, code)
		}
	}
	if codes[impl.OK] < 1000 || codes[impl.ErrState] < 200 || codes[impl.ErrLimit] < 20 {
		t.Errorf("codes: %v", codes)
	}
}

func TestPromise17ExecutedByHand(t *testing.T) {
	logs := logsOf("0+7 9-7", "3+7 8+8 12-7 13+7 99-7", "0+8 1+7 2-8", "", "5+8 100000-8", "0+7 10-7 10+7 11-7")
	same(t, "spread", results(impl.SpreadOf(logs, 7)), 9, 12, impl.OK)
	same(t, "spread", results(impl.SpreadOf(logs, 8)), 2, 100000, impl.OK)
	same(t, "spread of one", results(impl.SpreadOf(logs[:1], 7)), 9, 9, impl.OK)
	same(t, "spread in one", results(impl.SpreadOf(logs[2:4], 8)), 2, 2, impl.OK)
	for _, signal := range []int64{0, 1, 9, 9999} {
		same(t, fmt.Sprint("signal ", signal), results(impl.SpreadOf(logs, signal)), 0, 0, impl.ErrNotFound)
		same(t, fmt.Sprint("signal ", signal), results(impl.LateShips(logs, signal, 5)), []int64(nil), impl.ErrNotFound)
	}
	same(t, "up, but not hauled down", results(impl.SpreadOf(logs[2:4], 7)), 0, 0, impl.ErrNotFound)
	same(t, "up, but not hauled down", results(impl.LateShips(logs[2:4], 7, 5)), []int64(nil), impl.ErrNotFound)
	tests := []struct {
		signal, within int64
		want           []int64
	}{
		{7, 0, []int64{1, 2, 3, 4, 5}}, {7, 1, []int64{1, 2, 3, 4}}, {7, 2, []int64{1, 2, 3, 4}}, {7, 3, []int64{2, 3, 4}}, {7, 100000, []int64{2, 3, 4}},
		{8, 0, []int64{0, 1, 3, 4, 5}}, {8, 99997, []int64{0, 1, 3, 4, 5}}, {8, 99998, []int64{0, 1, 3, 5}}, {8, 99999, []int64{0, 1, 3, 5}},
	}
	for _, test := range tests {
		same(t, fmt.Sprint(test.signal, " within ", test.within), results(impl.LateShips(logs, test.signal, test.within)), test.want, impl.OK)
	}
	ends := logsOf("0+0 0-0", "0+0 100000-0")
	same(t, "from 0 on", results(impl.SpreadOf(ends, 0)), 0, 100000, impl.OK)
	same(t, "just so late", results(impl.LateShips(ends, 0, 100000)), []int64(nil), impl.OK)
	same(t, "a minute later", results(impl.LateShips(ends, 0, 99999)), []int64{1}, impl.OK)
	last := logsOf("50+9999 50-9999", "40+9999 45-9999", "40+9999 49-9999")
	same(t, "the first one by time", results(impl.LateShips(last, 9999, 4)), []int64{0}, impl.OK)
	same(t, "the first one by time", results(impl.LateShips(last, 9999, 3)), []int64{0, 2}, impl.OK)
	same(t, "the first one by time", results(impl.SpreadOf(last, 9999)), 45, 50, impl.OK)
}

func TestPromise17SpreadAndLate(t *testing.T) {
	codes := map[int64]int{}
	late := 0
	for k, logs := range append(someSquadrons(300, 8), someSquadrons(40, 60)...) {
		for _, signal := range logExtremes {
			name := fmt.Sprint("logs ", k, ", signal ", signal)
			least, greatest, code := toldSpread(logs, signal)
			if signal < 0 || signal > 9999 {
				least, greatest, code = 0, 0, impl.ErrRange
			}
			codes[code]++
			same(t, name, results(impl.SpreadOf(logs, signal)), least, greatest, code)
			for _, within := range append(logExtremes, greatest-least-1, greatest-least, greatest-least+1) {
				var want []int64
				found := int64(impl.ErrRange)
				if code != impl.ErrRange && within >= 0 && within <= 100000 {
					want, found = toldLate(logs, signal, within)
				}
				late += len(want)
				same(t, fmt.Sprint(name, " within ", within), results(impl.LateShips(logs, signal, within)), want, found)
			}
		}
	}
	if codes[impl.OK] < 300 || codes[impl.ErrNotFound] < 300 || late < 1000 {
		t.Errorf("codes: %v, late: %d", codes, late)
	}
}

func TestPromise17HowManyLogs(t *testing.T) {
	good := logOf("0+1 5-1")
	for count := range 20 {
		code := int64(impl.OK)
		if count < 1 || count > 8 {
			code = impl.ErrRange
		}
		logs := slices.Repeat([]impl.Log{good}, count)
		name := fmt.Sprint("logs: ", count)
		least, agreed := int64(5), good
		if code != impl.OK {
			least, agreed = 0, nil
		}
		same(t, name, results(impl.BestLog(logs)), 0, 0, code)
		same(t, name, results(impl.AgreedLog(logs, 1)), agreed, code)
		same(t, name, results(impl.AgreedLog(logs, int64(count))), agreed, code)
		same(t, name, results(impl.SpreadOf(logs, 1)), least, least, code)
		same(t, name, results(impl.LateShips(logs, 1, 0)), []int64(nil), code)
		if code != impl.OK { // behind what there is nothing else is asked
			same(t, name, results(impl.SpreadOf(logs, 2)), 0, 0, code)
			same(t, name, results(impl.LateShips(logs, 2, 0)), []int64(nil), code)
		}
	}
}

// TestPromise17InvalidSquadrons calls all functions with logs of which one is not valid, also with too many of them, and with numbers that are wrong.
func TestPromise17InvalidSquadrons(t *testing.T) {
	for k, logs := range badSquadrons() {
		name := fmt.Sprint("logs ", k)
		same(t, name, results(impl.BestLog(logs)), 0, 0, impl.ErrInvalid)
		for _, n := range []int64{-1, 0, 1, 2, 9, 10000, 100001} {
			same(t, name, results(impl.AgreedLog(logs, n)), impl.Log(nil), impl.ErrInvalid)
			same(t, name, results(impl.SpreadOf(logs, n)), 0, 0, impl.ErrInvalid)
			same(t, name, results(impl.LateShips(logs, n, 5)), []int64(nil), impl.ErrInvalid)
			same(t, name, results(impl.LateShips(logs, 1, n)), []int64(nil), impl.ErrInvalid)
		}
	}
}
