package tests

import (
	"fmt"
	"iter"
	"slices"
	"testing"

	"loop.example/g01299/impl"
)

// steps returns a list of steps from pairs of indices.
func steps(numbers ...int64) []impl.Step {
	var list []impl.Step
	for pair := range slices.Chunk(numbers, 2) {
		list = append(list, impl.Step{Flown: pair[0], Seen: pair[1]})
	}
	return list
}

// shortPairs goes through all pairs of logs with few entries and signals, whose times are 0.
func shortPairs(longest int, signals int64) iter.Seq2[impl.Log, impl.Log] {
	var logs []impl.Log
	for length := range longest + 1 {
		logs = slices.AppendSeq(logs, everyLog(length, signals, []int64{0}))
	}
	return func(yield func(a, b impl.Log) bool) {
		for _, a := range logs {
			for _, b := range logs {
				if !yield(a, b) {
					return
				}
			}
		}
	}
}

// drawnPairs goes through pairs of logs with 3 to 6 entries and few signals; times differ.
func drawnPairs(count int) iter.Seq2[impl.Log, impl.Log] {
	return func(yield func(a, b impl.Log) bool) {
		seed := numbers(167)
		for k := range count {
			a := drawnLog(&seed, 3+seed.below(4), 1+k%4, 9)
			b := drawnLog(&seed, 3+seed.below(3), 1+k%4, 9)
			if !yield(a, b) {
				return
			}
		}
	}
}

// longPairs goes through pairs of logs with up to 60 entries, of which the second one often is like the first one.
func longPairs(count int) iter.Seq2[impl.Log, impl.Log] {
	return func(yield func(a, b impl.Log) bool) {
		seed := numbers(173)
		logs := someLogs(count)
		for k, a := range logs {
			b := logs[seed.below(count)]
			if k%3 > 0 {
				b = withoutSome(&seed, a)
			}
			if !yield(a, b) || !yield(b, a) {
				return
			}
		}
	}
}

// withoutSome leaves out all entries of some signals, and gives one signal another number.
func withoutSome(seed *numbers, g impl.Log) impl.Log {
	signals := map[int64]int64{}
	var less impl.Log
	for _, e := range g {
		as, known := signals[e.Signal]
		if !known {
			as = []int64{e.Signal, e.Signal, -1, 9999 - e.Signal}[seed.below(4)]
			for _, other := range signals {
				if other == as {
					as = -1 // two signals must not become one
				}
			}
			signals[e.Signal] = as
		}
		if as >= 0 {
			less = append(less, impl.Entry{Time: e.Time, Signal: as, Down: e.Down})
		}
	}
	return less
}

func TestPromise17Example(t *testing.T) {
	g, seen := logOf("0+7 5+8 9-7"), logOf("0+6 5+8 9-6")
	same(t, "faults", results(impl.FaultsOf(g, seen)), 2, impl.OK)
	same(t, "misread", results(impl.MisreadIn(g, seen)), []int64{0, 2}, impl.OK)
	same(t, "missed", results(impl.MissedIn(g, seen)), []int64(nil), impl.OK)
	same(t, "story", results(impl.StoryOf(g, seen)), steps(0, 0, 1, 1, 2, 2), impl.OK)
	same(t, "a log that cannot be", results(impl.FaultsOf(g, logOf("0+7 9-6"))), 0, impl.ErrInvalid)
}

func TestPromise17Constants(t *testing.T) {
	same(t, "constants", results(int64(impl.FtDrop), int64(impl.FtMisread), int64(impl.FtExtra)), 1, 1, 2)
}

func TestPromise17CommonByHand(t *testing.T) {
	tests := []struct {
		a, b string
		want []impl.Step
	}{
		{"", "", nil}, {"0+1", "", nil}, {"", "0+1", nil}, {"0+1", "0+2", nil}, {"0+1 1-1", "0+2 1-2", nil},
		{"0+1", "9+1", steps(0, 0)}, {"0+1 9-1", "0+1", steps(0, 0)}, {"0+1 9-1", "3+2 4+1 5-2 6-1", steps(0, 1, 1, 3)},
		{"0+7 5+8 9-7", "0+7 9-7", steps(0, 0, 2, 1)}, {"0+7 9-7", "0+7 5+8 9-7", steps(0, 0, 1, 2)},
		// Several are as long.
		{"0+1 1+2", "0+2 1+1", steps(0, 1)}, {"0+1", "0+1 1-1 2+1", steps(0, 0)}, {"0+1 1-1 2+1", "0+1", steps(0, 0)}, {"0+1 1+2 2+3", "0+3 1+2 2+1", steps(0, 2)},
		{"0+1 1-1 2+1 3-1", "0+1 1-1", steps(0, 0, 1, 1)}, {"0+1 1-1", "0+1 1-1 2+1 3-1", steps(0, 0, 1, 1)}, {"0+1 1+2 2-1 3-2", "0+2 1+1 2-2 3-1", steps(0, 1, 2, 3)},
		// The first entry that agrees with the first one is not always in the longest list.
		{"0+1 1+2 2+3", "0+2 1+3 2+1", steps(1, 0, 2, 1)}, {"0+1 1+2 2-1", "0+2 1+1 2-1", steps(0, 1, 2, 2)}, {"0+2 1+1 2-1", "0+1 1+2 2-1", steps(0, 1, 2, 2)},
	}
	for _, test := range tests {
		a, b := logOf(test.a), logOf(test.b)
		same(t, test.a+" and "+test.b, results(impl.CommonOf(a, b)), test.want, impl.OK)
		same(t, test.a+" and "+test.b, results(toldCommon(a, b)), test.want)
	}
}

func checkCommon(t *testing.T, a, b impl.Log) {
	t.Helper()
	same(t, fmt.Sprint(a, " and ", b), results(impl.CommonOf(a, b)), toldCommon(a, b), impl.OK)
}

func TestPromise17CommonOfShortLogs(t *testing.T) {
	for a, b := range shortPairs(4, 2) {
		checkCommon(t, a, b)
	}
	for a, b := range shortPairs(3, 3) {
		checkCommon(t, a, b)
	}
	for a, b := range drawnPairs(600) {
		checkCommon(t, a, b)
	}
}

// commonLeft returns how many pairs in order what is left of two logs has in common, behind each i and j entries.
func commonLeft(a, b impl.Log) [][]int {
	left := make([][]int, len(a)+1)
	for i := range left {
		left[i] = make([]int, len(b)+1)
	}
	for i := range slices.Backward(a) {
		for j := range slices.Backward(b) {
			left[i][j] = max(left[i+1][j], left[i][j+1])
			if toldAgree(a[i], b[j]) {
				left[i][j] = left[i+1][j+1] + 1 // two entries that agree are a pair of a longest list
			}
		}
	}
	return left
}

// TestPromise17CommonOfLongLogs looks at each pair for one that comes before it and leaves as much.
func TestPromise17CommonOfLongLogs(t *testing.T) {
	longest := 0
	for a, b := range longPairs(120) {
		left := commonLeft(a, b)
		common, code := impl.CommonOf(a, b)
		name := fmt.Sprint(a, " and ", b)
		same(t, name, results(int64(len(common)), code), left[0][0], impl.OK)
		longest = max(longest, len(common))
		i, j := 0, 0
		for n, pair := range common {
			flown, seen := int(pair.Flown), int(pair.Seen)
			if flown < i || seen < j || !toldAgree(a[flown], b[seen]) {
				t.Fatalf("%s: pair %d is %v", name, n, pair)
			}
			for f := i; f <= flown; f++ {
				for s := j; s < len(b) && (f < flown || s < seen); s++ {
					if toldAgree(a[f], b[s]) && left[f+1][s+1] == len(common)-n-1 {
						t.Fatalf("%s: pair %d is %v, but %d and %d come before it", name, n, pair, f, s)
					}
				}
			}
			i, j = flown+1, seen+1
		}
	}
	if longest < 50 {
		t.Errorf("at most %d pairs", longest)
	}
}

func TestPromise17StoryByHand(t *testing.T) {
	tests := []struct {
		flown, seen string
		want        []impl.Step
		faults      int64
	}{
		{"", "", nil, 0}, {"0+1", "", steps(0, -1), 1}, {"", "0+1", steps(-1, 0), 2}, {"0+1 1+2 2-1", "", steps(0, -1, 1, -1, 2, -1), 3}, {"", "0+1 1+2 2-1", steps(-1, 0, -1, 1, -1, 2), 6},
		{"0+1", "50+1", steps(0, 0), 0}, {"0+1", "0+2", steps(0, 0), 1}, {"0+7 5+8 9-7", "0+6 5+8 9-6", steps(0, 0, 1, 1, 2, 2), 2}, {"0+7 5+8 9-7", "0+7 9-7", steps(0, 0, 1, -1, 2, 1), 1}, {"0+7 9-7", "0+7 5+8 9-7", steps(0, 0, -1, 1, 1, 2), 2},
		// Several are as good.
		{"0+1 1+2", "0+3", steps(0, 0, 1, -1), 2}, {"0+3", "0+1 1+2", steps(0, 0, -1, 1), 3}, {"0+1 1-1", "0+2", steps(0, 0, 1, -1), 2}, {"0+1 1-1 2+1 3-1", "0+1 1-1", steps(0, 0, 1, 1, 2, -1, 3, -1), 2}, {"0+1 1-1", "0+1 1-1 2+1 3-1", steps(0, 0, 1, 1, -1, 2, -1, 3), 4},
		{"0+1 1+2", "0+2 1+1", steps(0, 0, 1, 1), 2}, {"0+1 1+2 2+3", "0+2 1+3", steps(0, -1, 1, 0, 2, 1), 1}, {"0+2 1+3", "0+1 1+2 2+3", steps(-1, 0, 0, 1, 1, 2), 2}, {"0+1 1+2 2+3 3+4", "0+3 1+4 2+1", steps(0, 0, 1, 1, 2, 2, 3, -1), 4},
		{"0+1 1-1", "0+2 1+3", steps(0, 0, 1, -1, -1, 1), 4}, {"0+2 1+3", "0+1 1-1", steps(0, 0, 1, -1, -1, 1), 4}, {"0+1 1-1 2+2", "0+3 1+2", steps(0, 0, 1, -1, 2, 1), 2}, {"0+1 0-1 0+1", "5+1 6+2", steps(0, 0, 1, -1, 2, 1), 2},
		// A misread of a haul needs a haul.
		{"0+1 1-1", "0+2 1-2", steps(0, 0, 1, 1), 2}, {"0+1 1+2 2-1", "0+1 1-1", steps(0, 0, 1, -1, 2, 1), 1}, {"0+1 1+2 2-2 3-1", "0+1 1+2 2-1 3-2", steps(0, 0, 1, 1, 2, 2, 3, 3), 2},
		// The longest list of entries that agree is not in the story with the least faults.
		{"0+1 1+2 2+3 3+4 4+5 5+6", "0+4 1+5 2+6 3+7 4+8 5+9", steps(0, 0, 1, 1, 2, 2, 3, 3, 4, 4, 5, 5), 6},
	}
	for _, test := range tests {
		flown, seen := logOf(test.flown), logOf(test.seen)
		name := test.flown + " seen as " + test.seen
		same(t, name, results(impl.StoryOf(flown, seen)), test.want, impl.OK)
		same(t, name, results(impl.FaultsOf(flown, seen)), test.faults, impl.OK)
		same(t, name, results(impl.CheckStory(flown, seen, test.want)), test.faults, impl.OK)
		same(t, name, results(toldStory(flown, seen)), test.want, test.faults)
	}
}

// checkTold holds all that is told of two logs against a story and its faults.
func checkTold(t *testing.T, flown, seen impl.Log, story []impl.Step, faults int64) {
	t.Helper()
	name := fmt.Sprint(flown, " seen as ", seen)
	same(t, name, results(impl.StoryOf(flown, seen)), story, impl.OK)
	same(t, name, results(impl.FaultsOf(flown, seen)), faults, impl.OK)
	same(t, name, results(impl.CheckStory(flown, seen, story)), faults, impl.OK)
	same(t, name, results(impl.MissedIn(flown, seen)), toldMissed(story), impl.OK)
	same(t, name, results(impl.MisreadIn(flown, seen)), toldMisread(flown, seen, story), impl.OK)
}

// TestPromise17StoriesOfShortLogs goes through all stories.
func TestPromise17StoriesOfShortLogs(t *testing.T) {
	for flown, seen := range shortPairs(4, 2) {
		story, faults := toldStory(flown, seen)
		checkTold(t, flown, seen, story, faults)
	}
	for flown, seen := range shortPairs(3, 3) {
		story, faults := toldStory(flown, seen)
		checkTold(t, flown, seen, story, faults)
	}
	for flown, seen := range drawnPairs(200) {
		story, faults := toldStory(flown, seen)
		checkTold(t, flown, seen, story, faults)
	}
}

// preferred returns the story with the least faults, by those of what is left, that prefers both indices, and then drops.
func preferred(flown, seen impl.Log) ([]impl.Step, int64) {
	left := toldLeft(flown, seen)
	var story []impl.Step
	i, j := 0, 0
	for i < len(flown) || j < len(seen) {
		both := i < len(flown) && j < len(seen) && flown[i].Down == seen[j].Down
		misread := int64(1)
		if both && toldAgree(flown[i], seen[j]) {
			misread = 0
		}
		switch {
		case both && left[i][j] == left[i+1][j+1]+misread:
			story = append(story, impl.Step{Flown: int64(i), Seen: int64(j)})
			i, j = i+1, j+1
		case i < len(flown) && left[i][j] == left[i+1][j]+1:
			story = append(story, impl.Step{Flown: int64(i), Seen: -1})
			i++
		default:
			story = append(story, impl.Step{Flown: -1, Seen: int64(j)})
			j++
		}
	}
	return story, left[0][0]
}

func TestPromise17StoriesOfLongLogs(t *testing.T) {
	missed, misread := 0, 0
	for flown, seen := range longPairs(150) {
		story, faults := preferred(flown, seen)
		checkTold(t, flown, seen, story, faults)
		missed += len(toldMissed(story))
		misread += len(toldMisread(flown, seen, story))
	}
	if missed < 300 || misread < 300 {
		t.Errorf("%d entries missed, %d misread", missed, misread)
	}
	var one, other impl.Log
	for i := range int64(60) {
		one = append(one, impl.Entry{Time: i, Signal: i})
		other = append(other, impl.Entry{Time: 2 * i, Signal: 100 + i/2, Down: i%2 == 1})
	}
	story, faults := preferred(one, other)
	checkTold(t, one, other, story, faults)
	checkTold(t, one, nil, toldWithout(60, impl.Step{Flown: 1}), 60)
	checkTold(t, nil, one, toldWithout(60, impl.Step{Seen: 1}), 120)
}

// toldWithout returns so many steps of which one column is -1, and the other one counts.
func toldWithout(count int64, by impl.Step) []impl.Step {
	var story []impl.Step
	for i := range count {
		story = append(story, impl.Step{Flown: by.Flown*(i+1) - 1, Seen: by.Seen*(i+1) - 1})
	}
	return story
}

// TestPromise17NoFaultsAgainstItself also shifts the log, for times do not matter.
func TestPromise17NoFaultsAgainstItself(t *testing.T) {
	for _, g := range someLogs(200) {
		var want []impl.Step
		for i := range int64(len(g)) {
			want = append(want, impl.Step{Flown: i, Seen: i})
		}
		later, code := impl.ShiftLog(g, 5000)
		same(t, "shifted", results(code), impl.OK)
		for _, seen := range []impl.Log{g, later} {
			checkTold(t, g, seen, want, 0)
			same(t, "common", results(impl.CommonOf(g, seen)), want, impl.OK)
		}
	}
}
