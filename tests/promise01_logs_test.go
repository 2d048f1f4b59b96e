package tests

import (
	"reflect"
	"slices"
	"strings"
	"testing"

	"loop.example/g01299/impl"
)

// logCalls returns, for some arguments, the results of all functions of chapter 7 with one log or two.
func logCalls(a, b impl.Log, n int64, story []impl.Step, text string) [][]any {
	return [][]any{
		results(impl.UpAt(a, n)),
		results(impl.ExecutedIn(a)),
		results(impl.LongestUp(a)),
		results(impl.ShiftLog(a, n)),
		results(impl.OffsetOf(a, b)),
		results(impl.CommonOf(a, b)),
		results(impl.FaultsOf(a, b)),
		results(impl.StoryOf(a, b)),
		results(impl.CheckStory(a, b, story)),
		results(impl.MissedIn(a, b)),
		results(impl.MisreadIn(a, b)),
		results(impl.ReadLog(text)),
		results(impl.ValidLog(a), impl.SameLog(a, b), impl.LogText(a), int64(impl.OK)),
	}
}

// squadronCalls returns, for some arguments, the results of all functions of chapter 7 with several logs.
func squadronCalls(logs []impl.Log, n, within int64) [][]any {
	return [][]any{
		results(impl.BestLog(logs)),
		results(impl.AgreedLog(logs, n)),
		results(impl.SpreadOf(logs, n)),
		results(impl.LateShips(logs, n, within)),
	}
}

// copiedLogs returns the same logs elsewhere, without more capacity than length.
func copiedLogs(logs []impl.Log) []impl.Log {
	copies := make([]impl.Log, len(logs))
	for i, g := range logs {
		copies[i] = slices.Clip(slices.Clone(g))
	}
	return copies
}

func TestPromise1LogsAllArguments(t *testing.T) {
	texts := []string{"", "0 up 7\n", "0 up 7\n5 down 7\n", "0 up 7", "0 down 7\n", "x", "00 up 7\n", strings.Repeat("5 up 7\n5 down 7\n", 30)}
	logs := append(someLogs(100), badLogs()...)
	for k, a := range logs {
		for j, n := range logExtremes {
			b, text := logs[(3*k+7*j)%len(logs)], texts[(j+k)%len(texts)]
			story := steps(0, 0, int64(j-3), -1, -1, n)
			if valid := len(a) <= 60 && len(b) <= 60; valid && j%3 == 0 {
				story, _ = preferred(a, b)
			}
			first := logCalls(a, b, n, story, text)
			second := logCalls(slices.Clip(slices.Clone(a)), slices.Clip(slices.Clone(b)), n, slices.Clone(story), strings.Clone(text))
			if !reflect.DeepEqual(first, second) {
				t.Fatalf("results differ: %v, %v", first, second)
			}
			zeroIfError(t, first)
		}
	}
	for _, g := range append(someLogs(20), badLogs()...) {
		if one, two := logCalls(g, nil, 5, nil, ""), logCalls(g, impl.Log{}, 5, []impl.Step{}, ""); !reflect.DeepEqual(one, two) {
			t.Errorf("nil and empty lists differ: %v, %v", one, two)
		}
		if one, two := logCalls(nil, g, 5, nil, ""), logCalls(impl.Log{}, g, 5, []impl.Step{}, ""); !equalCalls(one, two) {
			t.Errorf("nil and empty lists differ: %v, %v", one, two)
		}
	}
}

// equalCalls takes nil lists and empty ones as equal.
func equalCalls(one, two [][]any) bool {
	return slices.EqualFunc(one, two, func(a, b []any) bool { return slices.EqualFunc(a, b, equal) })
}

func TestPromise1SquadronsAllArguments(t *testing.T) {
	squadrons := append(someSquadrons(100, 10), badSquadrons()[:100]...)
	squadrons = append(squadrons, nil, make([]impl.Log, 8), make([]impl.Log, 9), someLogs(9), someLogs(60), slices.Repeat(someLogs(9)[8:], 8))
	for k, logs := range squadrons {
		for j, n := range logExtremes {
			within := logExtremes[(j+5*k)%len(logExtremes)]
			first, second := squadronCalls(logs, n, within), squadronCalls(copiedLogs(logs), n, within)
			if !reflect.DeepEqual(first, second) {
				t.Fatalf("results differ: %v, %v", first, second)
			}
			zeroIfError(t, first)
		}
	}
	for _, n := range logExtremes {
		if one, two := squadronCalls(nil, n, 5), squadronCalls([]impl.Log{}, n, 5); !reflect.DeepEqual(one, two) {
			t.Errorf("nil and empty lists differ: %v, %v", one, two)
		}
		if one, two := squadronCalls([]impl.Log{nil, logOf("0+1 5-1")}, n, 5), squadronCalls([]impl.Log{{}, logOf("0+1 5-1")}, n, 5); !reflect.DeepEqual(one, two) {
			t.Errorf("nil and empty logs differ: %v, %v", one, two)
		}
	}
}

// TestPromise1SquadronsAgain calls the functions again and again, for they must not depend on which log is compared first, or on the order of a map.
func TestPromise1SquadronsAgain(t *testing.T) {
	for _, logs := range append(someSquadrons(16, 60), someLogs(8), slices.Repeat(logsOf("0+1 5-1"), 8)) {
		first := squadronCalls(logs, 1, 5)
		for range 30 {
			if again := squadronCalls(logs, 1, 5); !reflect.DeepEqual(first, again) {
				t.Fatalf("results differ: %v, %v", first, again)
			}
		}
	}
}

// TestPromise1LogsUnchanged gives the lists more capacity than length, for this must stay as it is, too.
func TestPromise1LogsUnchanged(t *testing.T) {
	more := logOf("77+77 88-88")
	logs := append(someLogs(150), badLogs()...)
	for k, valid := range logs {
		other := logs[(k+11)%len(logs)]
		a, b := slices.Concat(valid, more), slices.Concat(other, more)
		story := append(steps(0, 0, 1, -1, -1, 1), impl.Step{Flown: 99})
		keptA, keptB, keptStory := slices.Clone(a), slices.Clone(b), slices.Clone(story)
		for _, n := range []int64{-1, 0, 1, 50, 100000} {
			logCalls(a[:len(valid)], b[:len(other)], n, story[:3], "0 up 7\n")
			logCalls(b[:len(other)], a[:len(valid)], n, story[:0], "")
		}
		same(t, "lists", results(a, b, story), keptA, keptB, keptStory)
	}
	for _, valid := range append(someSquadrons(100, 10), badSquadrons()[:100]...) {
		var logs, kept []impl.Log
		for _, g := range valid {
			whole := slices.Concat(g, more)
			logs, kept = append(logs, whole[:len(g)]), append(kept, slices.Clone(whole))
		}
		logs = append(logs, more, more)
		for _, n := range []int64{-1, 0, 1, 2, 8, 10000} {
			squadronCalls(logs[:len(valid)], n, 5)
		}
		same(t, "behind the logs", results(logs[len(valid)], logs[len(valid)+1]), logOf("77+77 88-88"), logOf("77+77 88-88"))
		for i, g := range logs[:len(valid)] {
			same(t, "log", results(len(g), g[:len(kept[i])]), len(valid[i]), kept[i])
		}
	}
}

func TestPromise1LogsNewResults(t *testing.T) {
	g, seen := logOf("0+7 5+8 9-7 9+1"), logOf("0+6 9-6")
	logs := []impl.Log{g, seen, g}
	bad := impl.Entry{Time: -9}
	for range 2 { // what is done with the first results must not be seen in the second ones
		up, code := impl.UpAt(g, 8)
		same(t, "up", results(up, code), []int64{7, 8}, impl.OK)
		spoil(up, 99)
		executed, code := impl.ExecutedIn(g)
		same(t, "executed", results(executed, code), []impl.Entry(logOf("9-7")), impl.OK)
		spoil(executed, bad)
		all, code := impl.ExecutedIn(seen)
		same(t, "executed", results(all, code), []impl.Entry(logOf("9-6")), impl.OK)
		spoil(all, bad)
		for _, by := range []int64{0, 1} {
			shifted, code := impl.ShiftLog(seen, by)
			same(t, "shifted", results(shifted, code), impl.Log{{Time: by, Signal: 6}, {Time: 9 + by, Signal: 6, Down: true}}, impl.OK)
			spoil(shifted, bad)
		}
		common, code := impl.CommonOf(g, g)
		same(t, "common", results(common, code), steps(0, 0, 1, 1, 2, 2, 3, 3), impl.OK)
		spoil(common, impl.Step{})
		story, code := impl.StoryOf(g, seen)
		same(t, "story", results(story, code), steps(0, 0, 1, -1, 2, 1, 3, -1), impl.OK)
		spoil(story, impl.Step{})
		missed, code := impl.MissedIn(g, seen)
		same(t, "missed", results(missed, code), []int64{1, 3}, impl.OK)
		spoil(missed, 99)
		misread, code := impl.MisreadIn(g, seen)
		same(t, "misread", results(misread, code), []int64{0, 2}, impl.OK)
		spoil(misread, 99)
		agreed, code := impl.AgreedLog(logs, 2)
		same(t, "agreed", results(agreed, code), logOf("0+7 5+8 9+1 9-7"), impl.OK)
		spoil(agreed, bad)
		alone, code := impl.AgreedLog(logs[1:2], 1)
		same(t, "agreed alone", results(alone, code), seen, impl.OK)
		spoil(alone, bad)
		late, code := impl.LateShips(logs, 7, 0)
		same(t, "late", results(late, code), []int64{1}, impl.OK)
		spoil(late, 99)
		back, code := impl.ReadLog("0 up 6\n9 down 6\n")
		same(t, "read", results(back, code), seen, impl.OK)
		spoil(back, bad)
		same(t, "the arguments", results(g, seen), logOf("0+7 5+8 9-7 9+1"), logOf("0+6 9-6"))
	}
}

func TestPromise1LogsOfAMillion(t *testing.T) {
	long, story := make(impl.Log, 333333), make([]impl.Step, 500000)
	good := logOf("0+1 5-1")
	for _, pair := range [][2]impl.Log{{long, long}, {long, good}} {
		for n, call := range logCalls(pair[0], pair[1], 0, story, "")[:11] {
			if codeOf(call) != impl.ErrInvalid {
				t.Errorf("call %d: code %d", n, codeOf(call))
			}
		}
	}
	same(t, "a long log", results(impl.ValidLog(long), impl.LogText(long)), false, "")
	same(t, "a long story", results(impl.CheckStory(good, good, story)), 0, impl.ErrProof)
	same(t, "a long story", results(impl.CheckStory(good, good, append(steps(0, 0, 1, 1), story...))), 0, impl.ErrProof)
	for n, call := range squadronCalls(make([]impl.Log, 1000000), 1, 5) {
		if codeOf(call) != impl.ErrRange {
			t.Errorf("many logs, call %d: code %d", n, codeOf(call))
		}
	}
	for n, call := range squadronCalls([]impl.Log{good, long}, 1, 5) {
		if codeOf(call) != impl.ErrInvalid {
			t.Errorf("long logs, call %d: code %d", n, codeOf(call))
		}
	}
	many := make([]impl.Log, 999998)
	many[999997] = impl.Log{{Time: -1}}
	for n, call := range squadronCalls(many, 1, 5) {
		if codeOf(call) != impl.ErrInvalid {
			t.Errorf("many logs, the last one invalid, call %d: code %d", n, codeOf(call))
		}
	}
	same(t, "a long text", results(impl.ReadLog(strings.Repeat("0 up 7\n", 142857))), impl.Log(nil), impl.ErrSyntax)
}
