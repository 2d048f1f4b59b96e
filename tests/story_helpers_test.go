package tests

import (
	"iter"
	"slices"

	"loop.example/g01299/impl"
)

// toldAgree reports whether two entries agree.
func toldAgree(e, other impl.Entry) bool { return e.Signal == other.Signal && e.Down == other.Down }

// everyCommon goes through all lists of pairs that agree, in the order of lists.
func everyCommon(a, b impl.Log) iter.Seq[[]impl.Step] {
	return func(yield func([]impl.Step) bool) {
		var fill func(list []impl.Step, i, j int) bool
		fill = func(list []impl.Step, i, j int) bool {
			if !yield(slices.Clone(list)) {
				return false
			}
			for flown := i; flown < len(a); flown++ {
				for seen := j; seen < len(b); seen++ {
					pair := impl.Step{Flown: int64(flown), Seen: int64(seen)}
					if toldAgree(a[flown], b[seen]) && !fill(append(slices.Clone(list), pair), flown+1, seen+1) {
						return false
					}
				}
			}
			return true
		}
		fill(nil, 0, 0)
	}
}

// toldCommon returns the first one of the longest lists.
func toldCommon(a, b impl.Log) []impl.Step {
	var longest []impl.Step
	for list := range everyCommon(a, b) {
		if len(list) > len(longest) {
			longest = list
		}
	}
	return longest
}

// everyStory goes through all stories of two logs, in the order in which they are preferred.
func everyStory(flown, seen impl.Log) iter.Seq[[]impl.Step] {
	return func(yield func([]impl.Step) bool) {
		var fill func(story []impl.Step, i, j int) bool
		with := func(story []impl.Step, i, j int) []impl.Step {
			return append(slices.Clone(story), impl.Step{Flown: int64(i), Seen: int64(j)})
		}
		fill = func(story []impl.Step, i, j int) bool {
			if i == len(flown) && j == len(seen) {
				return yield(story)
			}
			if i < len(flown) && j < len(seen) && flown[i].Down == seen[j].Down && !fill(with(story, i, j), i+1, j+1) {
				return false
			}
			if i < len(flown) && !fill(with(story, i, -1), i+1, j) {
				return false
			}
			return j == len(seen) || fill(with(story, -1, j), i, j+1)
		}
		fill(nil, 0, 0)
	}
}

// columnIs reports whether a column, without -1, is 0, 1, 2, ... up to the number of entries.
func columnIs(story []impl.Step, entries int, column func(s impl.Step) int64) bool {
	next := int64(0)
	for _, s := range story {
		if column(s) == next {
			next++
		} else if column(s) != -1 {
			return false
		}
	}
	return next == int64(entries)
}

// toldFaults returns the faults of a story, and whether it is one of both logs.
func toldFaults(flown, seen impl.Log, story []impl.Step) (int64, bool) {
	if !columnIs(story, len(flown), func(s impl.Step) int64 { return s.Flown }) || !columnIs(story, len(seen), func(s impl.Step) int64 { return s.Seen }) {
		return 0, false
	}
	faults := int64(0)
	for _, s := range story {
		switch {
		case s.Flown < 0 && s.Seen < 0:
			return 0, false
		case s.Seen < 0:
			faults++
		case s.Flown < 0:
			faults += 2
		case flown[s.Flown].Down != seen[s.Seen].Down:
			return 0, false
		case flown[s.Flown].Signal != seen[s.Seen].Signal:
			faults++
		}
	}
	return faults, true
}

// toldStory returns the first one of the stories with the least faults, and these.
func toldStory(flown, seen impl.Log) ([]impl.Step, int64) {
	var best []impl.Step
	least := int64(-1)
	for story := range everyStory(flown, seen) {
		if faults, is := toldFaults(flown, seen, story); is && (least < 0 || faults < least) {
			best, least = story, faults
		}
	}
	return best, least
}

// toldLeft returns the least faults for what is left of two logs behind each i and j entries. It begins at the ends, with both logs backwards.
func toldLeft(flown, seen impl.Log) [][]int64 {
	left := make([][]int64, len(flown)+1)
	for i := range left {
		left[i] = make([]int64, len(seen)+1)
	}
	for k := range (len(flown) + 1) * (len(seen) + 1) {
		backI, backJ := k/(len(seen)+1), k%(len(seen)+1)
		i, j := len(flown)-backI, len(seen)-backJ
		faults := int64(backI) + 2*int64(backJ)
		if backI > 0 {
			faults = min(faults, 1+left[i+1][j])
		}
		if backJ > 0 {
			faults = min(faults, 2+left[i][j+1])
		}
		if backI > 0 && backJ > 0 && flown[i].Down == seen[j].Down {
			misread := int64(1)
			if toldAgree(flown[i], seen[j]) {
				misread = 0
			}
			faults = min(faults, misread+left[i+1][j+1])
		}
		left[i][j] = faults
	}
	return left
}

// toldWhere returns the entries that have been flown at the steps of a story that are as told.
func toldWhere(story []impl.Step, are func(s impl.Step) bool) []int64 {
	var list []int64
	for _, s := range story {
		if are(s) {
			list = append(list, s.Flown)
		}
	}
	return list
}

// toldMissed returns the entries that a story takes as drops.
func toldMissed(story []impl.Step) []int64 {
	return toldWhere(story, func(s impl.Step) bool { return s.Seen < 0 })
}

// toldMisread returns the entries that a story takes as misreads.
func toldMisread(flown, seen impl.Log, story []impl.Step) []int64 {
	return toldWhere(story, func(s impl.Step) bool {
		return s.Flown >= 0 && s.Seen >= 0 && flown[s.Flown].Signal != seen[s.Seen].Signal
	})
}

// toldBest returns the first log with the least sum of faults of all others against it.
func toldBest(logs []impl.Log) (int64, int64, int64) {
	best, least := -1, int64(0)
	for i, flown := range logs {
		sum := int64(0)
		for j, seen := range logs {
			if i != j {
				sum += toldLeft(flown, seen)[0][0]
			}
		}
		if best < 0 || sum < least {
			best, least = i, sum
		}
	}
	return int64(best), least, impl.OK
}

// toldAgreed returns the entries that enough logs have.
func toldAgreed(logs []impl.Log, quorum int64) (impl.Log, int64) {
	var agreed impl.Log
	for _, e := range slices.Concat(logs...) {
		having := int64(0)
		for _, g := range logs {
			if slices.Contains(g, e) {
				having++
			}
		}
		if having >= quorum && !slices.Contains(agreed, e) {
			agreed = append(agreed, e)
		}
	}
	if len(agreed) > 60 {
		return nil, impl.ErrLimit
	}
	slices.SortFunc(agreed, func(e, other impl.Entry) int { return int(toldKey(e) - toldKey(other)) })
	if !toldValidLog(agreed) {
		return nil, impl.ErrState
	}
	return agreed, impl.OK
}

// toldExecuted returns for each log when a signal has been hauled down for the first time, or -1.
func toldExecuted(logs []impl.Log, signal int64) []int64 {
	times := make([]int64, len(logs))
	for i, g := range logs {
		times[i] = -1
		for _, e := range slices.Backward(g) {
			if e.Down && e.Signal == signal {
				times[i] = e.Time
			}
		}
	}
	return times
}

// toldSpread returns the least and the greatest one of these times.
func toldSpread(logs []impl.Log, signal int64) (int64, int64, int64) {
	times := slices.Sorted(slices.Values(toldExecuted(logs, signal)))
	for len(times) > 0 && times[0] < 0 {
		times = times[1:]
	}
	if len(times) == 0 {
		return 0, 0, impl.ErrNotFound
	}
	return times[0], times[len(times)-1], impl.OK
}

// toldLate returns all logs in which a signal has been hauled down too late, or not at all.
func toldLate(logs []impl.Log, signal, within int64) ([]int64, int64) {
	first, _, code := toldSpread(logs, signal)
	if code != impl.OK {
		return nil, code
	}
	var late []int64
	for i, time := range toldExecuted(logs, signal) {
		if time < 0 || time > first+within {
			late = append(late, int64(i))
		}
	}
	return late, impl.OK
}

// someSquadrons returns lists of 1 to 8 logs with so many entries at most that many logs have the same ones, or nearly so.
func someSquadrons(count, entries int) [][]impl.Log {
	seed := numbers(157)
	list := make([][]impl.Log, count)
	for k := range list {
		for i := range 1 + k%8 {
			g := drawnLog(&seed, seed.below(entries+1), 1+k%4, 1+k%3)
			if i > 0 && seed.below(3) > 0 {
				g = slices.Clone(list[k][seed.below(i)]) // as another ship has noted it, but for its end, or for the time
				if by := int64(seed.below(4)); by < 3 {
					for at := range g {
						g[at].Time += by
					}
				} else {
					g = g[:seed.below(len(g)+1)]
				}
			}
			list[k] = append(list[k], g)
		}
	}
	return list
}

// badSquadrons returns lists of logs of which one is not valid, also such of too many logs.
func badSquadrons() [][]impl.Log {
	var list [][]impl.Log
	good := logOf("0+1 5-1")
	for _, bad := range badLogs() {
		for _, count := range []int{1, 2, 8, 9} {
			for _, at := range slices.Compact([]int{0, count / 2, count - 1}) {
				logs := slices.Repeat([]impl.Log{good}, count)
				logs[at] = bad
				list = append(list, logs)
			}
		}
	}
	return list
}
