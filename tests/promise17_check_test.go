package tests

import (
	"fmt"
	"slices"
	"testing"

	"loop.example/g01299/impl"
)

func TestPromise17CheckByHand(t *testing.T) {
	flown, seen := "0+7 5+8 9-7", "0+7 9-7"
	tests := []struct {
		flown, seen string
		story       []impl.Step
		faults      int64 // -1 for no story
	}{
		{flown, seen, steps(0, 0, 1, -1, 2, 1), 1}, {flown, seen, steps(0, -1, 1, 0, 2, 1), 2}, {flown, seen, steps(0, -1, -1, 0, 1, -1, -1, 1, 2, -1), 7}, {flown, seen, steps(-1, 0, -1, 1, 0, -1, 1, -1, 2, -1), 7}, {flown, seen, steps(0, -1, 1, -1, 2, -1, -1, 0, -1, 1), 7}, {flown, seen, steps(0, 0, 1, -1, 2, -1, -1, 1), 4},
		// Entries that are left over.
		{flown, seen, nil, -1}, {flown, seen, steps(0, 0), -1}, {flown, seen, steps(0, 0, 1, -1), -1}, {flown, seen, steps(0, 0, 1, -1, 2, -1), -1}, {flown, seen, steps(0, 0, 1, -1, -1, 1), -1}, {flown, seen, steps(0, -1, 1, -1, 2, -1), -1}, {flown, seen, steps(-1, 0, -1, 1), -1}, {flown, seen, steps(0, -1, 1, -1, 2, -1, -1, 0), -1},
		// Both -1, at the beginning, between others, and at the end.
		{flown, seen, steps(-1, -1), -1}, {flown, seen, steps(-1, -1, 0, 0, 1, -1, 2, 1), -1}, {flown, seen, steps(0, 0, -1, -1, 1, -1, 2, 1), -1}, {flown, seen, steps(0, 0, 1, -1, 2, 1, -1, -1), -1}, {"", "", steps(-1, -1), -1},
		// An index that is left out, twice, out of order or beyond the log.
		{flown, seen, steps(0, 0, 2, 1), -1}, {flown, seen, steps(1, 0, 2, 1), -1}, {flown, seen, steps(0, -1, 1, -1, 2, 1), -1}, {flown, seen, steps(0, 1, 1, -1, 2, -1), -1},
		{flown, seen, steps(0, 0, 0, -1, 1, -1, 2, 1), -1}, {flown, seen, steps(0, 0, 1, -1, 1, -1, 2, 1), -1}, {flown, seen, steps(0, 0, 1, 0, 2, 1), -1}, {flown, seen, steps(0, 0, 1, -1, 2, 1, 2, -1), -1}, {flown, seen, steps(0, 0, 1, -1, 2, 1, -1, 1), -1}, {flown, seen, steps(0, 0, 1, -1, 2, 1, 2, 1), -1},
		{flown, seen, steps(1, -1, 0, 0, 2, 1), -1}, {flown, seen, steps(-1, 1, 0, 0, 1, -1, 2, -1), -1}, {flown, seen, steps(2, 1, 1, -1, 0, 0), -1}, {flown, seen, steps(0, 0, 2, 1, 1, -1), -1},
		{flown, seen, steps(0, 0, 1, -1, 2, 1, 3, -1), -1}, {flown, seen, steps(0, 0, 1, -1, 2, 1, -1, 2), -1}, {flown, seen, steps(0, 0, 1, -1, 2, 1, 3, 2), -1}, {flown, seen, steps(0, 0, 1, -1, 2, 2), -1}, {flown, seen, steps(0, 0, 1, -1, 3, 1), -1}, {"", "", steps(0, 0), -1}, {"", "", steps(0, -1), -1}, {"", "", steps(-1, 0), -1},
		{flown, seen, steps(0, 0, 1, -2, 2, 1), -1}, {flown, seen, steps(-2, 0, 0, -1, 1, -1, 2, 1), -1}, {flown, seen, steps(0, 0, 1, -1, 2, 1, -2, -2), -1}, {flown, seen, steps(-1<<63, -1<<63), -1}, {flown, seen, steps(1<<63-1, 1<<63-1), -1}, {flown, seen, steps(1<<32, 0, 1, -1, 2, 1), -1}, {flown, seen, steps(0, 1<<32, 1, -1, 2, 1), -1},
		// A misread of another Down.
		{flown, seen, steps(0, 0, 1, 1, 2, -1), -1}, {flown, seen, steps(0, -1, 1, -1, 2, 0, -1, 1), -1}, {"0+1", "0+1", steps(0, 0), 0}, {"0+1 1-1", "0+1 1-1", steps(0, -1, -1, 0, 1, 1), 3}, {"0+1 1-1", "0+1 1-1", steps(0, -1, 1, 0, -1, 1), -1}, {"0+1 1-1", "0+1 1-1", steps(-1, 0, 0, 1, 1, -1), -1},
		{"", "", nil, 0}, {"0+1", "", steps(0, -1), 1}, {"", "0+1", steps(-1, 0), 2}, {"0+1", "", steps(-1, 0), -1}, {"", "0+1", steps(0, -1), -1}, {"0+1", "", nil, -1}, {"", "0+1", nil, -1}, {"0+1", "9+2", steps(0, 0), 1}, {"0+1", "9+2", steps(0, -1, -1, 0), 3}, {"0+1", "9+2", steps(-1, 0, 0, -1), 3},
	}
	for k, test := range tests {
		faults, code := test.faults, int64(impl.OK)
		if faults < 0 {
			faults, code = 0, impl.ErrProof
		}
		one, other := logOf(test.flown), logOf(test.seen)
		same(t, fmt.Sprint("story ", k), results(impl.CheckStory(one, other, test.story)), faults, code)
		told, is := toldFaults(one, other, test.story)
		same(t, fmt.Sprint("told story ", k), results(told, is), faults, code == impl.OK)
	}
}

// TestPromise17EveryStory takes all stories as such, and none of them with fewer faults than are told.
func TestPromise17EveryStory(t *testing.T) {
	count := 0
	for flown, seen := range shortPairs(3, 2) {
		least, _ := impl.FaultsOf(flown, seen)
		found := false
		for story := range everyStory(flown, seen) {
			want, is := toldFaults(flown, seen, story)
			faults, code := impl.CheckStory(flown, seen, story)
			same(t, fmt.Sprint(flown, seen, story), results(faults, code, is), want, impl.OK, true)
			if faults < least {
				t.Errorf("%v seen as %v: %v has %d faults, less than %d", flown, seen, story, faults, least)
			}
			found = found || faults == least
			count++
		}
		if !found {
			t.Errorf("%v seen as %v: no story has %d faults", flown, seen, least)
		}
	}
	if count < 3000 {
		t.Errorf("only %d stories", count)
	}
}

// TestPromise17EveryListOfSteps takes all lists of up to four steps for two logs with two entries each.
func TestPromise17EveryListOfSteps(t *testing.T) {
	var all []impl.Step
	for flown := int64(-1); flown <= 2; flown++ {
		for seen := int64(-1); seen <= 2; seen++ {
			all = append(all, impl.Step{Flown: flown, Seen: seen})
		}
	}
	var from []int8
	for i := range all {
		from = append(from, int8(i))
	}
	flown, seen := logOf("0+1 1-1"), logOf("0+2 1-2")
	stories := 0
	for length := range 5 {
		for list := range everyList(from, length) {
			story := make([]impl.Step, length)
			for i, number := range list {
				story[i] = all[number]
			}
			want, is := toldFaults(flown, seen, story)
			code := int64(impl.ErrProof)
			if is {
				code = impl.OK
				stories++
			}
			if faults, found := impl.CheckStory(flown, seen, story); faults != want || found != code {
				t.Fatalf("%v: %d faults with the code %d, want %d with %d", story, faults, found, want, code)
			}
		}
	}
	// Without a pair there are 6 stories, with one of the pairs 2 each, and with both one.
	same(t, "stories", results(int64(stories)), 6+2*2+1)
	// One that takes a hoist for a haul, or a haul for a hoist, is none.
	same(t, "another Down", results(impl.CheckStory(flown, seen, steps(0, -1, 1, 0, -1, 1))), 0, impl.ErrProof)
}

// TestPromise17SpoiledStory changes one index of a story, leaves a step out, repeats it, or exchanges it with the next one.
func TestPromise17SpoiledStory(t *testing.T) {
	still, none := 0, 0
	for flown, seen := range longPairs(40) {
		story, _ := preferred(flown, seen)
		for i := range story {
			var others [][]impl.Step
			for _, by := range []int64{-2, -1, 1, 2} {
				one, other := slices.Clone(story), slices.Clone(story)
				one[i].Flown += by
				other[i].Seen += by
				others = append(others, one, other)
			}
			exchanged := slices.Clone(story)
			next := (i + 1) % len(story)
			exchanged[i], exchanged[next] = exchanged[next], exchanged[i]
			others = append(others, exchanged, slices.Delete(slices.Clone(story), i, i+1), slices.Insert(slices.Clone(story), i, story[i]), slices.Insert(slices.Clone(story), i, impl.Step{Flown: -1, Seen: -1}))
			for n, other := range others {
				want, is := toldFaults(flown, seen, other)
				code := int64(impl.ErrProof)
				if is {
					code = impl.OK
					still++
				} else {
					none++
				}
				same(t, fmt.Sprint(flown, seen, ", step ", i, ", change ", n), results(impl.CheckStory(flown, seen, other)), want, code)
			}
		}
	}
	if still == 0 || none < 1000 {
		t.Errorf("%d stories, %d others", still, none)
	}
}

// TestPromise17Invalid calls all functions with two logs for invalid ones, with stories that are none, too.
func TestPromise17Invalid(t *testing.T) {
	var noSteps []impl.Step
	var noIndices []int64
	for k, bad := range badLogs() {
		name := fmt.Sprint("invalid log ", k)
		for _, other := range []impl.Log{nil, logOf("0+1 5-1"), bad} {
			for _, pair := range [][2]impl.Log{{bad, other}, {other, bad}} {
				same(t, name, results(impl.CommonOf(pair[0], pair[1])), noSteps, impl.ErrInvalid)
				same(t, name, results(impl.FaultsOf(pair[0], pair[1])), 0, impl.ErrInvalid)
				same(t, name, results(impl.StoryOf(pair[0], pair[1])), noSteps, impl.ErrInvalid)
				same(t, name, results(impl.MissedIn(pair[0], pair[1])), noIndices, impl.ErrInvalid)
				same(t, name, results(impl.MisreadIn(pair[0], pair[1])), noIndices, impl.ErrInvalid)
				story, _ := preferred(pair[0], pair[1])
				for _, list := range [][]impl.Step{nil, story, steps(-1, -1), steps(0, 0)} {
					same(t, name, results(impl.CheckStory(pair[0], pair[1], list)), 0, impl.ErrInvalid)
				}
			}
		}
	}
}
