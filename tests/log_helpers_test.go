package tests

import (
	"iter"
	"math"
	"regexp"
	"slices"
	"strconv"
	"strings"

	"loop.example/g01299/impl"
)

// logExtremes are numbers at and around all bounds of chapter 7, numbers that are other ones in fewer bits, and the ends of int64.
var logExtremes = []int64{math.MinInt64, math.MinInt64 + 1, -(1 << 32), -100001, -100000, -99999, -2, -1, 0, 1, 2, 3, 7, 8, 9, 10, 59, 60, 61, 255, 256, 9998, 9999, 10000, 10001, 65536, 99999, 100000, 100001, 1 << 32, 1<<32 + 1, math.MaxInt64}

// logPattern is that of the texts of logs, but for what makes a log valid.
var logPattern = regexp.MustCompile(`^((0|[1-9]\d{0,5}) (up|down) (0|[1-9]\d{0,3})\n)*$`)

// toldLog returns the log with a text, and whether there is one.
func toldLog(text string) (impl.Log, bool) {
	if !logPattern.MatchString(text) {
		return nil, false
	}
	var g impl.Log
	for line := range strings.Lines(text) {
		words := strings.Fields(line)
		time, _ := strconv.ParseInt(words[0], 10, 64)
		signal, _ := strconv.ParseInt(words[2], 10, 64)
		g = append(g, impl.Entry{Time: time, Signal: signal, Down: words[1] == "down"})
	}
	if !toldValidLog(g) {
		return nil, false
	}
	return g, true
}

// logOf returns a log, which need not be valid, from words such as "5+8" for the signal 8 hoisted at 5, and "9-8" for it hauled down at 9.
func logOf(words string) impl.Log {
	var g impl.Log
	for word := range strings.FieldsSeq(words) {
		at := strings.LastIndexAny(word, "+-")
		time, one := strconv.ParseInt(word[:at], 10, 64)
		signal, two := strconv.ParseInt(word[at+1:], 10, 64)
		if one != nil || two != nil {
			panic("no entry: " + word)
		}
		g = append(g, impl.Entry{Time: time, Signal: signal, Down: word[at] == '-'})
	}
	return g
}

// logsOf returns the logs of several words.
func logsOf(list ...string) []impl.Log {
	var logs []impl.Log
	for _, words := range list {
		logs = append(logs, logOf(words))
	}
	return logs
}

func toldLogText(g impl.Log) string {
	text := ""
	for _, e := range g {
		text += strconv.FormatInt(e.Time, 10) + map[bool]string{false: " up ", true: " down "}[e.Down] + strconv.FormatInt(e.Signal, 10) + "\n"
	}
	return text
}

// toldValidLog reports whether a log is valid as the document tells it. It counts hoists and hauls for each entry anew.
func toldValidLog(g impl.Log) bool {
	if len(g) > 60 {
		return false
	}
	for i, e := range g {
		if e.Time < 0 || e.Time > 100000 || e.Signal < 0 || e.Signal > 9999 || i > 0 && g[i-1].Time > e.Time {
			return false
		}
		if slices.Contains(toldUp(g[:i]), e.Signal) != e.Down {
			return false
		}
	}
	return true
}

// toldUp returns the signals that are up behind all entries of a log, in the order in which they have been hoisted.
func toldUp(g impl.Log) []int64 {
	var up []int64
	for i, e := range g {
		hauledLater := slices.ContainsFunc(g[i:], func(other impl.Entry) bool { return other.Down && other.Signal == e.Signal })
		if !e.Down && !hauledLater {
			up = append(up, e.Signal)
		}
	}
	return up
}

// toldUntil returns the entries of a log up to a time.
func toldUntil(g impl.Log, time int64) impl.Log {
	var until impl.Log
	for _, e := range g {
		if e.Time <= time {
			until = append(until, e)
		}
	}
	return until
}

// toldHoist returns the index of the entry in which the signal is hoisted that is hauled down in an entry.
func toldHoist(g impl.Log, hauled int) int {
	for i := hauled - 1; i >= 0; i-- {
		if g[i].Signal == g[hauled].Signal {
			return i
		}
	}
	panic("nothing is hauled down")
}

// toldLongest goes through the hauls in order.
func toldLongest(g impl.Log) (int64, int64, int64) {
	best, long := -1, int64(-1)
	for i, e := range g {
		if e.Down && e.Time-g[toldHoist(g, i)].Time > long {
			best = toldHoist(g, i)
			long = e.Time - g[best].Time
		}
	}
	if best < 0 {
		return 0, 0, impl.ErrNotFound
	}
	return int64(best), long, impl.OK
}

// toldPairs returns how many pairs of equal entries there are if so much is added to the times of the second log.
func toldPairs(a, b impl.Log, offset int64) int64 {
	pairs := int64(0)
	for _, e := range a {
		for _, other := range b {
			if e.Time == other.Time+offset && e.Signal == other.Signal && e.Down == other.Down {
				pairs++
			}
		}
	}
	return pairs
}

// toldOffset tries all offsets up to a size in the order in which they are preferred.
func toldOffset(a, b impl.Log, size int64) (int64, int64, int64) {
	best, most := int64(0), toldPairs(a, b, 0)
	for offset := int64(1); offset <= size; offset++ {
		for _, by := range []int64{offset, -offset} {
			if pairs := toldPairs(a, b, by); pairs > most {
				best, most = by, pairs
			}
		}
	}
	if most == 0 {
		return 0, 0, impl.ErrNotFound
	}
	return best, most, impl.OK
}

// everyLog goes through all valid logs of so many entries and signals from 1 on, in which each time is one of some that are ascending.
func everyLog(length int, signals int64, times []int64) iter.Seq[impl.Log] {
	return func(yield func(impl.Log) bool) {
		var fill func(g impl.Log) bool
		fill = func(g impl.Log) bool {
			if len(g) == length {
				return yield(slices.Clone(g))
			}
			for _, time := range times {
				for signal := int64(1); signal <= signals; signal++ {
					with := append(slices.Clone(g), impl.Entry{Time: time, Signal: signal, Down: slices.Contains(toldUp(g), signal)})
					if toldValidLog(with) && !fill(with) {
						return false
					}
				}
			}
			return true
		}
		fill(nil)
	}
}

// drawnLog returns a valid log with so many entries and signals, and so many minutes less one at most between two entries.
func drawnLog(seed *numbers, length, signals, pause int) impl.Log {
	var g impl.Log
	time := int64(0)
	up := map[int64]bool{}
	for range length {
		signal := int64(seed.below(signals))
		time += int64(seed.below(pause))
		g = append(g, impl.Entry{Time: time, Signal: signal, Down: up[signal]})
		up[signal] = !up[signal]
	}
	return g
}

// someLogs returns valid logs with 0 to 60 entries: with few signals and with many, and with many entries at one time or with long pauses.
func someLogs(count int) []impl.Log {
	seed := numbers(151)
	list := make([]impl.Log, count)
	for k := range list {
		list[k] = drawnLog(&seed, k*7%61, []int{1, 2, 3, 8, 10000}[k%5], []int{1, 2, 4, 1600}[k%4])
	}
	return list
}

// badLogs returns logs each of which is not valid for one reason.
func badLogs() []impl.Log {
	var long impl.Log
	for i := range int64(300) {
		long = append(long, impl.Entry{Time: i, Signal: i / 2, Down: i%2 == 1})
	}
	list := []impl.Log{long[:61], long[:62], long[:256], long[:257], long[:300], append(logOf("0+9998 1+9999"), long[2:61]...)}
	for _, number := range logExtremes {
		e := impl.Entry{Time: number, Signal: 5}
		if number < 0 {
			list = append(list, impl.Log{e}, impl.Log{e, {Time: 0, Signal: 5, Down: true}}, impl.Log{e, {Time: 100000, Signal: 1}})
		}
		if number > 100000 {
			list = append(list, impl.Log{e}, impl.Log{{Time: 0, Signal: 5}, {Time: number, Signal: 5, Down: true}}, impl.Log{{Time: 0, Signal: 1}, e})
		}
		if number < 0 || number > 9999 {
			e := impl.Entry{Time: 3, Signal: number}
			list = append(list, impl.Log{e}, impl.Log{e, {Time: 3, Signal: number, Down: true}}, impl.Log{{Time: 0, Signal: 1}, e}, impl.Log{e, {Time: 9, Signal: 1}})
		}
	}
	for _, words := range []string{
		"1+1 0+2", "0+1 5+2 4-1", "5+1 5+2 4+3 5+4", "0+1 100000-1 99999+1",
		"0-1", "3+2 3-1", "0+1 1-2", "0+1 1-1 2-1", "0+1 1-1 1+1 1-1 1-1", "0+1 0+2 0-1 0-1",
		"0+1 1+1", "0+1 0+1", "0+1 1-1 2+1 3+1", "0+1 0+2 1+1", "0+1 0+2 1-2 1+1", "5+9999 6+9999", "5+0 6+0", "7-0",
	} {
		list = append(list, logOf(words))
	}
	return list
}

// toldKey orders entries by their times, their signals, and hoists before hauls.
func toldKey(e impl.Entry) int64 {
	key := (e.Time*10000 + e.Signal) * 2
	if e.Down {
		key++
	}
	return key
}
