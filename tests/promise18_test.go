package tests

import (
	"fmt"
	"slices"
	"testing"

	"loop.example/g01299/impl"
)

// noPhrase is what a ship notes that reads a hoist which is none of the book.
const noPhrase = 9999

// prime is a number of letters that is enough for the kinds of all books.
const prime = 11

// hoistOf returns the hoist of a phrase for which there has to be one.
func hoistOf(t *testing.T, b impl.Book, i int64) impl.Hoist {
	t.Helper()
	h, code := impl.HoistOf(b, i)
	if code != impl.OK {
		t.Fatalf("phrase %d: code %d", i, code)
	}
	return h
}

// phraseOf returns what a ship notes that has read a hoist.
func phraseOf(b impl.Book, h impl.Hoist) int64 {
	if i, code := impl.PhraseFor(b, h); code == impl.OK {
		return i
	}
	return noPhrase
}

// notedBy returns what each ship notes that is reached, from the time start on: the phrase it has read, from when it sees the hoist to when the ship hauls it down from which it has it. The ship 0 notes its own hoist.
func notedBy(t *testing.T, b impl.Book, line []impl.Ship, h impl.Hoist, faults []impl.Fault, start int64) map[int]impl.Log {
	t.Helper()
	times, one := impl.TimesOf(line)
	down, two := impl.HauledDown(line)
	read, three := impl.ReadByAll(line, h, faults)
	same(t, "codes", results(one, two, three), impl.OK, impl.OK, impl.OK)
	noted := map[int]impl.Log{}
	for ship := range line {
		if times[ship] == lost {
			continue
		}
		from := max(int(times[ship].From), 0)
		signal := phraseOf(b, read[ship])
		noted[ship] = impl.Log{{Time: start + times[from].Flown, Signal: signal}, {Time: start + down[from], Signal: signal, Down: true}}
	}
	return noted
}

// TestPromise18OneSet flies each phrase of many books from one set of flags.
func TestPromise18OneSet(t *testing.T) {
	for n, b := range manyBooks() {
		set, code := impl.EvenLocker(1, int64(b.Kinds), int64(b.Subs))
		same(t, "one set", results(code), impl.OK)
		for i, m := range toldMeant(b) {
			i := int64(i)
			name := fmt.Sprint("book ", n, ", phrase ", i)
			h := hoistOf(t, b, i)
			same(t, name, results(impl.MeaningAt(b, i)), m, impl.OK)
			same(t, name, results(impl.MeaningOf(h)), m, impl.OK)
			same(t, name, results(impl.PhraseFor(b, h)), i, impl.OK)
			same(t, name, results(impl.FindPhrase(b, b.Phrases[i])), i, impl.OK)
			same(t, name, results(impl.SetsFor(h)), 1, impl.OK)
			same(t, name, results(impl.CanFly(set, []impl.Hoist{h})), true, impl.OK)
			same(t, name, results(impl.HoistFrom(set, m)), h, impl.OK)
			same(t, name, results(impl.FewestToBuy(set, []impl.Meaning{m})), 0, impl.OK)
			need, code := impl.NeededFor([]impl.Hoist{h})
			same(t, name, results(code), impl.OK)
			same(t, name, results(impl.Covers(set, need)), true, impl.OK)
		}
	}
}

// TestPromise18ReadByAll passes each phrase on along a line.
func TestPromise18ReadByAll(t *testing.T) {
	lines := someLines(60)
	reached, unreached := 0, 0
	for n, b := range manyBooks() {
		for i := range int64(len(b.Phrases)) {
			line := lines[(7*n+int(i))%len(lines)]
			name := fmt.Sprint("book ", n, ", phrase ", i, ", line ", toldLineText(line))
			h := hoistOf(t, b, i)
			read, code := impl.ReadByAll(line, h, nil)
			same(t, name, results(int64(len(read)), code), len(line), impl.OK)
			never, _ := impl.Unreached(line)
			for ship, one := range read {
				if slices.Contains(never, int64(ship)) {
					same(t, name, results(one), impl.Hoist(nil))
					unreached++
					continue
				}
				same(t, name, results(impl.PhraseFor(b, one)), i, impl.OK)
				same(t, name, results(impl.AlikeHoists(one, h)), true, impl.OK)
				reached++
			}
			same(t, name, results(impl.WrongShips(line, h, nil)), []int64(nil), impl.OK)
			same(t, name, results(impl.FirstBlamed(line, h, read)), 0, impl.ErrNotFound)
		}
	}
	if reached < 1000 || unreached < 1000 {
		t.Errorf("%d ships reached, %d not", reached, unreached)
	}
}

// TestPromise18LogsAgree makes several signals one after the other, with a pause between them.
func TestPromise18LogsAgree(t *testing.T) {
	books := []impl.Book{book(3, 2, 0, "yes", "no", "wait", "come", "go"), filled(2, 3, 1, 8), filled(10, 3, 4, 100)}
	alike := 0
	for k, line := range someLines(120) {
		b := books[k%3]
		last, _ := impl.LastDown(line)
		logs := make([]impl.Log, len(line))
		var flown []int64
		for n := range 1 + k%30 {
			i := int64(k+7*n) % int64(len(b.Phrases))
			flown = append(flown, i)
			for ship, noted := range notedBy(t, b, line, hoistOf(t, b, i), nil, int64(n)*(last+1)) {
				logs[ship] = append(logs[ship], noted...)
			}
		}
		logs = slices.DeleteFunc(logs, func(g impl.Log) bool { return len(g) == 0 }) // those of ships that are not reached
		logs = logs[:min(len(logs), 8)]
		for ship, g := range logs {
			checkNoted(t, fmt.Sprint(toldLineText(line), ", log ", ship), logs[0], g, flown)
		}
		same(t, toldLineText(line), results(impl.BestLog(logs)), 0, 0, impl.OK)
		like := slices.DeleteFunc(slices.Clone(logs), func(g impl.Log) bool { return !slices.Equal(g, logs[0]) }) // those that have it from the ship 0
		if alike += len(like); !slices.Contains(flown[1:], flown[0]) {
			same(t, toldLineText(line), results(impl.SpreadOf(like, flown[0])), logs[0][1].Time, logs[0][1].Time, impl.OK)
			same(t, toldLineText(line), results(impl.LateShips(like, flown[0], 0)), []int64(nil), impl.OK)
		}
		same(t, toldLineText(line), results(impl.AgreedLog(like, int64(len(like)))), logs[0], impl.OK)
	}
	if alike < 200 {
		t.Errorf("only %d logs are alike", alike)
	}
}

// checkNoted holds a log against that of the ship 0, and against the phrases that have been flown.
func checkNoted(t *testing.T, name string, first, g impl.Log, flown []int64) {
	t.Helper()
	same(t, name, results(impl.ValidLog(g)), true)
	executed, code := impl.ExecutedIn(g)
	same(t, name, results(int64(len(executed)), code), len(flown), impl.OK)
	var want []impl.Step
	for n, i := range flown {
		same(t, name, results(executed[n].Signal), i)
		same(t, name, results(impl.UpAt(g, g[2*n].Time)), toldUp(toldUntil(g, g[2*n].Time)), impl.OK)
		want = append(want, steps(int64(2*n), int64(2*n), int64(2*n)+1, int64(2*n)+1)...)
	}
	checkTold(t, first, g, want, 0)
	same(t, name, results(impl.CommonOf(first, g)), want, impl.OK)
	later, code := impl.ShiftLog(g, 5)
	same(t, name, results(impl.OffsetOf(g, later)), -5, toldPairs(g, later, -5), impl.OK)
	same(t, name, results(impl.FaultsOf(first, later)), 0, impl.OK)
	same(t, name, results(code), impl.OK)
	back, code := impl.ReadLog(impl.LogText(g))
	same(t, name, results(back, code), g, impl.OK)
}

// TestPromise18FaultsAreInTheLogs holds the logs against the ships that have read something else.
func TestPromise18FaultsAreInTheLogs(t *testing.T) {
	seed := numbers(179)
	b := filled(10, 3, 4, 100)
	wrong, none := 0, 0
	for k, line := range someLines(300) {
		i := int64(k % 100)
		h := hoistOf(t, b, i)
		faults := drawnFaults(&seed, len(line), h)
		misread, code := impl.WrongShips(line, h, faults)
		same(t, "code", results(code), impl.OK)
		logs := notedBy(t, b, line, h, faults, 0)
		for ship, g := range logs {
			name := fmt.Sprint(toldLineText(line), ", ", toldText(h), ", ", faults, ", ship ", ship)
			if !slices.Contains(misread, int64(ship)) {
				same(t, name, results(impl.FaultsOf(logs[0], g)), 0, impl.OK)
				continue
			}
			same(t, name, results(impl.FaultsOf(logs[0], g)), 2, impl.OK)
			same(t, name, results(impl.MisreadIn(logs[0], g)), []int64{0, 1}, impl.OK)
			same(t, name, results(impl.MissedIn(logs[0], g)), []int64(nil), impl.OK)
			if wrong++; g[0].Signal == noPhrase {
				none++
			}
		}
	}
	if wrong < 100 || none < 10 || wrong-none < 10 {
		t.Errorf("%d logs of ships that have read something else, %d of them nothing of the book", wrong, none)
	}
}

// phraseIn returns the phrase for a word with checks, and whether there is one.
func phraseIn(b impl.Book, w impl.Word) (int64, bool) {
	m := make(impl.Meaning, max(len(w)-2, 0))
	for n := range m {
		m[n] = int8(w[n])
	}
	rank, code := impl.RankOf(b, m)
	return rank, code == impl.OK && rank < int64(len(b.Phrases))
}

// checkedOf returns the word for the meaning of a phrase, with its checks.
func checkedOf(t *testing.T, b impl.Book, i int64) impl.Word {
	t.Helper()
	m, _ := impl.MeaningAt(b, i)
	var w impl.Word
	for _, kind := range m {
		w = append(w, uint8(kind))
	}
	checked, code := impl.WithChecks(prime, w)
	same(t, "checks", results(int64(len(checked)), code), len(m)+2, impl.OK)
	return checked
}

// TestPromise18WrongLetter takes each letter of the word of each phrase for each other one.
func TestPromise18WrongLetter(t *testing.T) {
	count := 0
	for n, b := range []impl.Book{book(3, 2, 0, "yes", "no", "wait", "come", "go"), filled(1, 3, 2, 3), filled(2, 3, 1, 8), filled(10, 1, 0, 10), filled(10, 2, 4, 100), filled(10, 3, 0, 100)} {
		for i := range int64(len(b.Phrases)) {
			checked := checkedOf(t, b, i)
			name := fmt.Sprint("book ", n, ", phrase ", i)
			phrase, found := phraseIn(b, checked)
			same(t, name, results(phrase, found), i, true)
			same(t, name, results(impl.IsChecked(prime, checked)), true, impl.OK)
			for at, wrong := range oneOff(prime, checked) {
				right, index, code := impl.RepairWord(prime, wrong)
				same(t, fmt.Sprint(name, ", ", wrong), results(right, index, code), checked, at, impl.OK)
				phrase, found := phraseIn(b, right)
				same(t, name, results(phrase, found), i, true)
				count++
			}
		}
	}
	if count < 8000 {
		t.Errorf("only %d words", count)
	}
}

// TestPromise18SeenFromAfar flies the letters of the word of a phrase as flags, of which one is another one.
func TestPromise18SeenFromAfar(t *testing.T) {
	seed := numbers(181)
	set := blockFlags(&seed, 40, 6)
	indices, code := impl.ChooseDistinct(set, 3)
	same(t, "distinct flags", results(len(indices) >= prime, code), true, impl.OK)
	var c impl.Code // with a word for each letter
	for letter := range uint8(prime) {
		c.Set = append(c.Set, set[indices[letter]])
		c.Words = append(c.Words, impl.Word{letter})
	}
	b := filled(10, 3, 4, 100)
	for i := range int64(len(b.Phrases)) {
		checked := checkedOf(t, b, i)
		flown := slices.Clone(checked)
		at := seed.below(len(flown))
		flown[at] = uint8(seed.below(prime))
		var read impl.Word
		for _, letter := range flown {
			sights, code := impl.SightsOf(c, int64(letter))
			same(t, "sights", results(code), impl.OK)
			sights[0][seed.below(6)] = uint8(seed.below(6)) // a block may be seen wrong
			found, off, code := impl.ReadSights(c, sights)
			same(t, "one flag", results(found, off <= 1, code), int64(letter), true, impl.OK)
			read = append(read, uint8(found))
		}
		right, _, code := impl.RepairWord(prime, read)
		same(t, fmt.Sprint("phrase ", i), results(right, code), checked, impl.OK)
	}
}
