package tests

import (
	"fmt"
	"slices"
	"testing"

	"loop.example/g01299/impl"
)

func TestPromise16Example(t *testing.T) {
	g, code := impl.ReadLog("0 up 7\n5 up 8\n9 down 7\n")
	same(t, "log", results(g, code), logOf("0+7 5+8 9-7"), impl.OK)
	same(t, "up", results(impl.UpAt(g, 9)), []int64{8}, impl.OK)
	same(t, "executed", results(impl.ExecutedIn(g)), []impl.Entry{{Time: 9, Signal: 7, Down: true}}, impl.OK)
	same(t, "longest", results(impl.LongestUp(g)), 0, 9, impl.OK)
	same(t, "without the second entry, and with 6 for 7 at its end", results(impl.ValidLog(logOf("0+7 9-6"))), false)
	later, code := impl.ShiftLog(g, 3)
	same(t, "later", results(later, code), logOf("3+7 8+8 12-7"), impl.OK)
	same(t, "offset", results(impl.OffsetOf(g, later)), -3, 3, impl.OK)
}

func TestPromise16Constants(t *testing.T) {
	same(t, "constants", results(int64(impl.MaxEntries), int64(impl.MaxLogs), int64(impl.MaxTime), int64(impl.MaxSignal)), 60, 8, 100000, 9999)
}

func TestPromise16ValidLog(t *testing.T) {
	for _, number := range logExtremes {
		isTime, isSignal := number >= 0 && number <= 100000, number >= 0 && number <= 9999
		same(t, fmt.Sprint("time ", number), results(impl.ValidLog(impl.Log{{Time: number}})), isTime)
		same(t, fmt.Sprint("last time ", number), results(impl.ValidLog(impl.Log{{Time: 0}, {Time: 0, Signal: 1}, {Time: number, Down: true}})), isTime)
		same(t, fmt.Sprint("first time ", number), results(impl.ValidLog(impl.Log{{Time: number}, {Time: 100000, Signal: 1}})), isTime)
		same(t, fmt.Sprint("signal ", number), results(impl.ValidLog(impl.Log{{Signal: number}})), isSignal)
		same(t, fmt.Sprint("signal ", number, " up and down"), results(impl.ValidLog(impl.Log{{Signal: 55}, {Signal: number}, {Signal: number, Down: true}})), isSignal)
		same(t, fmt.Sprint("signal ", number, ", which is not up"), results(impl.ValidLog(impl.Log{{Signal: 55}, {Signal: number, Down: true}})), number == 55)
	}
	for length := range 70 {
		var g impl.Log
		for i := range int64(length) {
			g = append(g, impl.Entry{Time: 100000, Signal: i})
		}
		same(t, fmt.Sprint("entries: ", length), results(impl.ValidLog(g)), length <= 60)
	}
	for _, words := range []string{"", "0+1", "0+1 0-1", "0+1 0-1 0+1 0-1", "5+1 5+2 5+3", "5+1 6+2 6-1 6+1", "0+0 100000-0 100000+0", "3+2 3+1 3-1 3-2", "0+1 1+2 2-1 3+1 4-2 5-1"} {
		same(t, words, results(impl.ValidLog(logOf(words)), toldValidLog(logOf(words))), true, true)
	}
	for k, g := range someLogs(300) {
		same(t, fmt.Sprint("log ", k), results(impl.ValidLog(g), toldValidLog(g)), true, true)
	}
	for k, bad := range badLogs() {
		same(t, fmt.Sprint("invalid log ", k), results(impl.ValidLog(bad), toldValidLog(bad)), false, false)
	}
}

// TestPromise16EveryShortList holds ValidLog against all lists of up to four of some entries.
func TestPromise16EveryShortList(t *testing.T) {
	valid := 0
	for length := range 5 {
		for list := range everyList([]int8{0, 1, 2, 3, 4, 5, 6, 7, 8, 9}, length) {
			var g impl.Log
			for _, number := range list { // 8 and 9 are a signal 2 at the time 0
				g = append(g, impl.Entry{Time: int64(number) / 4 % 2, Signal: int64(number)/2%2 + int64(number)/8*2, Down: number%2 == 1})
			}
			want := toldValidLog(g)
			if want {
				valid++
			}
			if impl.ValidLog(g) != want {
				t.Fatalf("%v: not %v", g, want)
			}
		}
	}
	if valid < 100 {
		t.Errorf("only %d lists are valid", valid)
	}
}

// TestPromise16SpoiledEntry changes one field of one entry of a valid log.
func TestPromise16SpoiledEntry(t *testing.T) {
	wrong := 0
	for k, g := range someLogs(120) {
		for i := range g {
			later, earlier, up, signal := slices.Clone(g), slices.Clone(g), slices.Clone(g), slices.Clone(g)
			later[i].Time += 2
			earlier[i].Time -= 2
			up[i].Down = !up[i].Down
			signal[i].Signal++
			for n, other := range []impl.Log{later, earlier, up, signal, slices.Delete(slices.Clone(g), i, i+1)} {
				want := toldValidLog(other)
				if !want {
					wrong++
				}
				same(t, fmt.Sprint("log ", k, ", entry ", i, ", change ", n), results(impl.ValidLog(other)), want)
			}
		}
	}
	if wrong < 1000 {
		t.Errorf("only %d logs are not valid", wrong)
	}
}

func TestPromise16SameLog(t *testing.T) {
	logs := append(logsOf("", "0+0", "0+1", "1+0", "0-0", "0+0 0-0", "0-0 0+0", "0+0 0+0", "0+7 5+8 9-7", "0+7 5+8 9-8", "0+7 5+8 9+7", "0+7 5+8 8-7", "0+7 5+8", "0+7 5+8 9-7 10-8"), badLogs()[:4]...)
	logs = append(logs, make(impl.Log, 333333), impl.Log{{Time: -1 << 63, Signal: 1<<63 - 1}})
	for i, a := range logs {
		for j, b := range logs {
			same(t, fmt.Sprint("logs ", i, j), results(impl.SameLog(a, slices.Clone(b))), i == j)
		}
	}
	same(t, "nil and empty logs", results(impl.SameLog(nil, impl.Log{}), impl.SameLog(impl.Log{}, nil)), true, true)
	long := make(impl.Log, 333333)
	long[333332].Down = true
	same(t, "another last entry", results(impl.SameLog(long, make(impl.Log, 333333))), false)
}

func TestPromise16UpByHand(t *testing.T) {
	tests := []struct {
		words string
		time  int64
		want  []int64
	}{
		{"", 0, nil}, {"", 100000, nil},
		{"0+7 5+8 9-7", 0, []int64{7}}, {"0+7 5+8 9-7", 4, []int64{7}}, {"0+7 5+8 9-7", 5, []int64{7, 8}}, {"0+7 5+8 9-7", 6, []int64{7, 8}}, {"0+7 5+8 9-7", 8, []int64{7, 8}}, {"0+7 5+8 9-7", 9, []int64{8}}, {"0+7 5+8 9-7", 10, []int64{8}}, {"0+7 5+8 9-7", 100000, []int64{8}},
		{"5+8", 4, nil}, {"100000+8", 99999, nil}, {"100000+8", 100000, []int64{8}}, {"0+0", 0, []int64{0}}, {"0+9999 100000-9999", 99999, []int64{9999}}, {"0+9999 100000-9999", 100000, nil},
		{"0+1 1+2 2+3 3-1 4+1", 2, []int64{1, 2, 3}}, {"0+1 1+2 2+3 3-1 4+1", 3, []int64{2, 3}}, {"0+1 1+2 2+3 3-1 4+1", 4, []int64{2, 3, 1}},
		{"0+3 0+1 0+2", 0, []int64{3, 1, 2}}, {"0+3 0+1 0+2 0-3 0+3", 0, []int64{1, 2, 3}}, {"1+3 1+1 1-3 1+2 1-1 1+1", 1, []int64{2, 1}}, {"1+3 1+1 1-3 1+2 1-1 1+1", 0, nil},
		{"5+1 5-1", 4, nil}, {"5+1 5-1", 5, nil}, {"5+1 5-1 5+1", 5, []int64{1}}, {"5+1 5-1 5+1 6-1", 6, nil}, {"2+1 5-1 5+1 5-1", 4, []int64{1}}, {"2+1 5-1 5+1 5-1", 5, nil},
	}
	for _, test := range tests {
		name := fmt.Sprint(test.words, " at ", test.time)
		same(t, name, results(impl.UpAt(logOf(test.words), test.time)), test.want, impl.OK)
		same(t, name, results(toldUp(toldUntil(logOf(test.words), test.time))), test.want)
	}
}

func TestPromise16UpAt(t *testing.T) {
	most := 0
	for k, g := range someLogs(300) {
		times := slices.Clone(logExtremes)
		for _, e := range g {
			times = append(times, e.Time-1, e.Time, e.Time+1)
		}
		for _, time := range times {
			name := fmt.Sprint("log ", k, " at ", time)
			if time < 0 || time > 100000 {
				same(t, name, results(impl.UpAt(g, time)), []int64(nil), impl.ErrRange)
				continue
			}
			want := toldUp(toldUntil(g, time))
			most = max(most, len(want))
			same(t, name, results(impl.UpAt(g, time)), want, impl.OK)
		}
	}
	if most < 10 {
		t.Errorf("at most %d signals are up", most)
	}
}

// TestPromise16WhatIsUp holds UpAt against the guarantee, not against another way to compute it.
func TestPromise16WhatIsUp(t *testing.T) {
	for _, g := range someLogs(300) {
		count := map[int64]int{}
		for i, e := range g {
			if e.Down {
				count[e.Signal]--
			} else {
				count[e.Signal]++
			}
			if i < len(g)-1 && g[i+1].Time == e.Time {
				continue
			}
			up, code := impl.UpAt(g, e.Time)
			for signal, is := range count {
				if code != impl.OK || slices.Contains(up, signal) != (is == 1) {
					t.Errorf("%v at %d: the signal %d has %d hoists more than hauls, but %v are up", g, e.Time, signal, is, up)
				}
			}
			for _, signal := range up {
				if count[signal] != 1 {
					t.Errorf("%v at %d: %d is not up", g, e.Time, signal)
				}
			}
		}
	}
}

func TestPromise16ExecutedIn(t *testing.T) {
	same(t, "none", results(impl.ExecutedIn(logOf("0+1 0+2"))), []impl.Entry(nil), impl.OK)
	same(t, "no entries", results(impl.ExecutedIn(nil)), []impl.Entry(nil), impl.OK)
	same(t, "several", results(impl.ExecutedIn(logOf("0+1 0+2 5-2 5-1 5+1 6+2 7-1"))), []impl.Entry(logOf("5-2 5-1 7-1")), impl.OK)
	for k, g := range someLogs(200) {
		var want []impl.Entry
		for _, e := range g {
			if e.Down {
				want = append(want, e)
			}
		}
		same(t, fmt.Sprint("log ", k), results(impl.ExecutedIn(g)), want, impl.OK)
	}
}

func TestPromise16LongestByHand(t *testing.T) {
	tests := []struct {
		words    string
		at, long int64
	}{
		{"0+1 5-1", 0, 5}, {"5+1 5-1", 0, 0}, {"3+2 5+1 5-1", 1, 0}, {"0+1 100000-1", 0, 100000}, {"0+2 99+1 100-1", 1, 1},
		{"0+1 2+2 5-1 7-2", 0, 5}, {"0+1 0+2 5-2 5-1", 1, 5}, {"0+1 0+2 5-1 5-2", 0, 5}, {"0+1 1+2 5-1 6-2 7+1 12-1", 0, 5}, {"0+1 1+2 5-1 7-2", 1, 6},
		{"0+1 5-1 5+1 10-1", 0, 5}, {"0+1 5-1 5+1 11-1", 2, 6}, {"0+1 5-1 5+1", 0, 5}, {"0+3 1+1 1-1 2+1 2-1", 1, 0}, {"9+1 9+2 9-2 9-1", 1, 0},
		{"0+1 0+2 0+3 4-3 4-1 4-2", 2, 4}, {"0+1 1+2 2+3 7-3 7-2 7-1", 0, 7}, {"0+1 2+2 4-2 4+2 5+3 7-3 7-2 7-1", 0, 7},
	}
	for _, test := range tests {
		same(t, test.words, results(impl.LongestUp(logOf(test.words))), test.at, test.long, impl.OK)
		same(t, test.words, results(toldLongest(logOf(test.words))), test.at, test.long, impl.OK)
	}
	for _, words := range []string{"", "0+1", "0+1 5+2 9+3", "100000+9999"} {
		same(t, words, results(impl.LongestUp(logOf(words))), 0, 0, impl.ErrNotFound)
	}
}

func TestPromise16LongestUp(t *testing.T) {
	ties := 0
	for k, g := range someLogs(600) {
		at, long, code := toldLongest(g)
		same(t, fmt.Sprint("log ", k), results(impl.LongestUp(g)), at, long, code)
		for i, e := range g {
			if code == impl.OK && e.Down && e.Time-g[toldHoist(g, i)].Time == long && toldHoist(g, i) < int(at) {
				ties++
			}
		}
	}
	if ties < 10 {
		t.Errorf("only %d signals that were hoisted before, but hauled down behind the one that is told", ties)
	}
}

// TestPromise16Invalid calls all functions of the first section with invalid logs, also with numbers that are wrong.
func TestPromise16Invalid(t *testing.T) {
	good := logOf("0+1 5-1")
	for k, bad := range badLogs() {
		name := fmt.Sprint("invalid log ", k)
		same(t, name, results(impl.ExecutedIn(bad)), []impl.Entry(nil), impl.ErrInvalid)
		same(t, name, results(impl.LongestUp(bad)), 0, 0, impl.ErrInvalid)
		for _, n := range []int64{-100001, -1, 0, 5, 100000, 100001} {
			same(t, name, results(impl.UpAt(bad, n)), []int64(nil), impl.ErrInvalid)
			same(t, name, results(impl.ShiftLog(bad, n)), impl.Log(nil), impl.ErrInvalid)
		}
		for _, other := range []impl.Log{good, nil, bad} {
			same(t, name, results(impl.OffsetOf(bad, other)), 0, 0, impl.ErrInvalid)
			same(t, name, results(impl.OffsetOf(other, bad)), 0, 0, impl.ErrInvalid)
		}
		same(t, name, results(impl.LogText(bad)), "")
	}
}
