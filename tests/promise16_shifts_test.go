package tests

import (
	"fmt"
	"slices"
	"testing"

	"loop.example/g01299/impl"
)

func TestPromise16ShiftByHand(t *testing.T) {
	tests := []struct {
		words string
		by    int64
		want  string
		code  int64
	}{
		{"0+7 5+8 9-7", 3, "3+7 8+8 12-7", impl.OK}, {"3+7 8+8 12-7", -3, "0+7 5+8 9-7", impl.OK}, {"0+7 5+8 9-7", 0, "0+7 5+8 9-7", impl.OK},
		{"0+7 5+8 9-7", -1, "", impl.ErrRange}, {"1+7 5+8 9-7", -1, "0+7 4+8 8-7", impl.OK}, {"1+7 5+8 9-7", -2, "", impl.ErrRange},
		{"0+7 99999-7", 1, "1+7 100000-7", impl.OK}, {"0+7 99999-7", 2, "", impl.ErrRange}, {"0+7 100000-7", 1, "", impl.ErrRange}, {"0+7 100000-7", -1, "", impl.ErrRange}, {"0+7 100000-7", 0, "0+7 100000-7", impl.OK},
		{"0+7", 100000, "100000+7", impl.OK}, {"1+7", 100000, "", impl.ErrRange}, {"0+7 0-7 0+7", 100000, "100000+7 100000-7 100000+7", impl.OK}, {"0+7 1-7", 100000, "", impl.ErrRange},
		{"100000+7", -100000, "0+7", impl.OK}, {"99999+7", -100000, "", impl.ErrRange}, {"99999+7 100000-7", -100000, "", impl.ErrRange}, {"100000+7 100000+8", -100000, "0+7 0+8", impl.OK},
		{"0+7", 100001, "", impl.ErrRange}, {"100000+7", -100001, "", impl.ErrRange},
		{"", 0, "", impl.OK}, {"", 100000, "", impl.OK}, {"", -100000, "", impl.OK}, {"", 100001, "", impl.ErrRange}, {"", -100001, "", impl.ErrRange},
	}
	for _, test := range tests {
		same(t, fmt.Sprint(test.words, " by ", test.by), results(impl.ShiftLog(logOf(test.words), test.by)), logOf(test.want), test.code)
	}
}

func TestPromise16ShiftLog(t *testing.T) {
	codes := map[int64]int{}
	for k, g := range append(someLogs(200), nil, logOf("0+1 100000-1"), logOf("100000+1")) {
		by := slices.Clone(logExtremes)
		if len(g) > 0 {
			first, last := g[0].Time, g[len(g)-1].Time
			by = append(by, -first, -first-1, -first+1, 100000-last, 100001-last, 99999-last)
		}
		for _, minutes := range by {
			want, code := slices.Clone(g), int64(impl.OK)
			for i := range want {
				want[i].Time += minutes
			}
			if minutes < -100000 || minutes > 100000 || !toldValidLog(want) {
				want, code = nil, impl.ErrRange
			}
			name := fmt.Sprint("log ", k, " by ", minutes)
			shifted, found := impl.ShiftLog(g, minutes)
			same(t, name, results(shifted, found), want, code)
			if codes[code]++; code == impl.OK {
				same(t, name+" and back", results(impl.ShiftLog(shifted, -minutes)), g, impl.OK)
			}
		}
	}
	if codes[impl.OK] < 1000 || codes[impl.ErrRange] < 1000 {
		t.Errorf("codes: %v", codes)
	}
}

func TestPromise16OffsetByHand(t *testing.T) {
	tests := []struct {
		a, b          string
		offset, pairs int64
	}{
		{"0+7 5+8 9-7", "3+7 8+8 12-7", -3, 3}, {"3+7 8+8 12-7", "0+7 5+8 9-7", 3, 3}, {"0+7 5+8 9-7", "0+7 5+8 9-7", 0, 3},
		{"0+1", "0+1", 0, 1}, {"0+1", "100000+1", -100000, 1}, {"100000+1", "0+1", 100000, 1}, {"5+1", "0+1 3-1 4+1", 1, 1}, {"5+1 6-1", "5+1", 0, 1},
		{"5+1", "0+1 4-1 10+1", 5, 1}, {"5+1", "2+1 4-1 8+1", 3, 1}, {"5+1", "2+1 4-1 7+1", -2, 1}, {"5+1", "3+1 4-1 8+1", 2, 1}, {"2+1 4-1 8+1", "5+1", 3, 1}, {"5+1 5+2", "1+2 9+1", 4, 1}, {"5+1 5+2", "1+1 9+2", 4, 1},
		{"0+1 0-1 0+1 0-1", "0+1 0-1 0+1 0-1", 0, 8}, {"5+1 5-1 5+1", "3+1", 2, 2}, {"3+1", "5+1 5-1 5+1 5-1 5+1", -2, 3}, {"0+1 9-1", "4+1 4-1 4+1 4-1 9+1", -4, 2},
		{"5+1 10-1 20+1", "5+1 11-1 21+1", -1, 2}, {"5+1 10-1 20+1", "4+1 9-1 20+1", 1, 2}, {"10+1 10+2", "9+1 11+2", 1, 1}, {"0+1 20-1", "3+1 17-1", 3, 1}, {"0+1 20-1", "3+1 22-1", -2, 1},
		{"100000+1 100000-1", "0+1 0-1", 100000, 2}, {"0+1 50-1", "0+2 0+1 50-2 51-1", 0, 1},
	}
	for _, test := range tests {
		name := test.a + " and " + test.b
		same(t, name, results(impl.OffsetOf(logOf(test.a), logOf(test.b))), test.offset, test.pairs, impl.OK)
	}
	for _, pair := range [][2]string{{"", ""}, {"", "0+1"}, {"0+1", ""}, {"0+1", "0+2"}, {"0+1 0+2", "0+3 5-3"}, {"3+0", "3+9999"}} {
		same(t, fmt.Sprint(pair), results(impl.OffsetOf(logOf(pair[0]), logOf(pair[1]))), 0, 0, impl.ErrNotFound)
	}
}

// TestPromise16Offset tries all offsets that there may be for logs that do not last long.
func TestPromise16Offset(t *testing.T) {
	seed := numbers(163)
	found := map[int64]int{}
	opposite := 0
	for k := range 3000 {
		pause := 1 + k%4
		a := drawnLog(&seed, seed.below(8), 1+k%5, pause)
		b := drawnLog(&seed, seed.below(8), 1+k%3, pause)
		offset, pairs, code := toldOffset(a, b, 40)
		same(t, fmt.Sprint(a, " and ", b), results(impl.OffsetOf(a, b)), offset, pairs, code)
		if found[code]++; code == impl.OK && offset > 0 && toldPairs(a, b, -offset) == pairs {
			opposite++
		}
	}
	if found[impl.OK] < 1000 || found[impl.ErrNotFound] < 300 || opposite < 30 {
		t.Errorf("codes: %v, %d times an offset and its opposite", found, opposite)
	}
}

func TestPromise16OffsetOfLongLogs(t *testing.T) {
	for k, g := range someLogs(120) {
		if len(g) == 0 {
			continue
		}
		for _, by := range []int64{0, 1, 2, 77, 5000} {
			later, code := impl.ShiftLog(g, by)
			if code != impl.OK {
				t.Fatalf("log %d by %d: code %d", k, by, code)
			}
			for n, pair := range [][2]impl.Log{{g, later}, {later, g}} {
				offset, pairs, code := impl.OffsetOf(pair[0], pair[1])
				name := fmt.Sprint("log ", k, " by ", by, ", way ", n)
				same(t, name, results(pairs, code), toldPairs(pair[0], pair[1], offset), impl.OK)
				told := []int64{-by, by}[n]
				if best := toldPairs(pair[0], pair[1], told); pairs < best || pairs == best && max(offset, -offset) > by {
					t.Errorf("%s: %d makes %d pairs, %d makes %d", name, offset, pairs, told, best)
				}
			}
		}
	}
}
