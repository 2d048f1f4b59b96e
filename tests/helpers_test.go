package tests

import (
	"iter"
	"math"
	"reflect"
	"testing"

	"loop.example/g01299/impl"
)

// extremes are numbers at and around all bounds of chapter 1, and the ends of int64.
var extremes = []int64{math.MinInt64, -256, -1, 0, 1, 2, 3, 4, 5, 6, 7, 12, 13, 255, 256, 257, math.MaxInt64}

// same checks that the results of a call are the wanted ones.
func same(t *testing.T, name string, got []any, want ...any) {
	t.Helper()
	if len(got) != len(want) {
		t.Fatalf("%s: got %d results, want %d", name, len(got), len(want))
	}
	for i := range got {
		if !equal(got[i], want[i]) {
			t.Errorf("%s: result %d: got %v, want %v", name, i, got[i], want[i])
		}
	}
}

// equal takes a nil list and an empty one as equal, also as the phrases of a book, and an int as an int64.
func equal(a, b any) bool {
	if n, ok := a.(int); ok {
		a = int64(n)
	}
	if n, ok := b.(int); ok {
		b = int64(n)
	}
	if one, ok := a.(impl.Book); ok {
		other, ok := b.(impl.Book)
		return ok && toldSameBook(one, other)
	}
	if isEmptyList(a) && isEmptyList(b) {
		return reflect.TypeOf(a) == reflect.TypeOf(b)
	}
	return reflect.DeepEqual(a, b)
}

func isEmptyList(list any) bool {
	value := reflect.ValueOf(list)
	return value.Kind() == reflect.Slice && value.Len() == 0
}

// results makes a list of the results of a call.
func results(list ...any) []any { return list }

func codeOf(list []any) int64 { return list[len(list)-1].(int64) }

// flag reads a flag whose text is known to be right.
func flag(text string) impl.Flag {
	f, code := impl.ReadFlag(text)
	if code != impl.OK || impl.FlagText(f) != text {
		panic("no flag: " + text)
	}
	return f
}

func plain(colour uint8) impl.Flag {
	var f impl.Flag
	for i := range f {
		f[i] = colour
	}
	return f
}

// flagOfBlocks returns the flag whose blocks have one colour each.
func flagOfBlocks(colours [6]uint8) impl.Flag {
	var f impl.Flag
	for i := range f {
		x, y := i%6, i/6
		f[i] = colours[y/2*3+x/2]
	}
	return f
}

// everyText goes through all texts of these letters that are not longer than told, the shorter ones first.
func everyText(letters string, longest int) iter.Seq[string] {
	var from []int8
	for _, letter := range []byte(letters) {
		from = append(from, int8(letter))
	}
	return func(yield func(string) bool) {
		for length := range longest + 1 {
			for list := range everyList(from, length) {
				text := make([]byte, length)
				for i, letter := range list {
					text[i] = byte(letter)
				}
				if !yield(string(text)) {
					return
				}
			}
		}
	}
}

// changedTexts puts each of some letters in front of each letter of a text, and in its place; an empty one there leaves it out.
func changedTexts(texts, letters []string) iter.Seq[string] {
	return func(yield func(string) bool) {
		for _, text := range texts {
			for i := range len(text) {
				for _, letter := range letters {
					if !yield(text[:i]+letter+text[i:]) || !yield(text[:i]+letter+text[i+1:]) {
						return
					}
				}
			}
		}
	}
}

// readAsTold checks that texts are read as they are told, and refused if they are told to be none's. It returns how many are read, and how many are not.
func readAsTold[T any](t *testing.T, texts iter.Seq[string], told func(text string) (T, bool), read func(text string) (T, int64)) (int, int) {
	t.Helper()
	accepted, refused := 0, 0
	for text := range texts {
		code := int64(impl.OK)
		want, valid := told(text)
		if valid {
			accepted++
		} else {
			code = impl.ErrSyntax
			refused++
		}
		if got, found := read(text); found != code || !equal(got, want) {
			t.Fatalf("%q: got %v with the code %d, want %v", text, got, found, want)
		}
	}
	return accepted, refused
}

// numbers is a sequence that is the same each time.
type numbers uint64

func (n *numbers) below(bound int) int {
	*n = *n*6364136223846793005 + 1442695040888963407
	return int(uint64(*n) >> 33 % uint64(bound))
}

// someFlags returns valid flags with many and with few colours.
func someFlags(count int) []impl.Flag {
	seed := numbers(7)
	list := make([]impl.Flag, count)
	for k := range list {
		colours := 2 + k%5
		for i := range list[k] {
			list[k][i] = uint8(seed.below(colours))
		}
	}
	return list
}

// blockFlags returns flags of which many differ in few blocks only.
func blockFlags(seed *numbers, count, colours int) []impl.Flag {
	list := make([]impl.Flag, count)
	for k := range list {
		var blocks [6]uint8
		for i := range blocks {
			blocks[i] = uint8(seed.below(colours))
		}
		list[k] = flagOfBlocks(blocks)
	}
	return list
}

// badFlags returns flags with one or more cells that have no colour.
func badFlags() []impl.Flag {
	list := []impl.Flag{plain(6), plain(255)}
	for i := range 24 {
		f := plain(impl.ClRed)
		f[i] = uint8(6 + i*i%250)
		list = append(list, f)
	}
	return list
}

// toldBlur blurs as the document tells it, going through the colours from the greatest one down.
func toldBlur(f impl.Flag) [6]uint8 {
	var blur [6]uint8
	for b := range blur {
		corner := b/3*12 + b%3*2
		cells := []uint8{f[corner], f[corner+1], f[corner+6], f[corner+7]}
		most := 0
		for colour := 5; colour >= 0; colour-- {
			count := 0
			for _, cell := range cells {
				if int(cell) == colour {
					count++
				}
			}
			if count >= most && count > 0 {
				most, blur[b] = count, uint8(colour)
			}
		}
	}
	return blur
}

// toldApart is the BlurDistance as the document tells it.
func toldApart(f, g impl.Flag) int64 {
	a, b := toldBlur(f), toldBlur(g)
	count := int64(0)
	for i := range a {
		if a[i] != b[i] {
			count++
		}
	}
	return count
}
