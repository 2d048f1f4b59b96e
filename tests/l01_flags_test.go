package tests

import (
	"math"
	"slices"
	"strings"
	"testing"

	"loop.example/g01299/impl"
)

func TestNames(t *testing.T) {
	codes := []string{"ok", "invalid", "range", "limit", "state", "syntax", "notfound", "budget", "proof"}
	colours := []string{"white", "yellow", "red", "blue", "green", "black"}
	for i := int64(-300); i <= 300; i++ {
		code, colour := "", ""
		if i >= 0 && i < 9 {
			code = codes[i]
		}
		if i >= 0 && i < 6 {
			colour = colours[i]
		}
		same(t, "names", results(impl.CodeName(i), impl.ColourName(i)), code, colour)
	}
	for _, n := range []int64{math.MinInt64, math.MinInt64 + 1, 1 << 32, 1<<32 + 2, math.MaxInt64} {
		same(t, "names of great numbers", results(impl.CodeName(n), impl.ColourName(n)), "", "")
	}
	same(t, "constants", results(int64(impl.OK), int64(impl.ErrInvalid), int64(impl.ErrRange), int64(impl.ErrLimit), int64(impl.ErrState),
		int64(impl.ErrSyntax), int64(impl.ErrNotFound), int64(impl.ErrBudget), int64(impl.ErrProof), int64(impl.Wide), int64(impl.High), int64(impl.MaxSet)),
		0, 1, 2, 3, 4, 5, 6, 7, 8, 6, 4, 40)
}

func TestValidFlag(t *testing.T) {
	for _, f := range someFlags(50) {
		same(t, "valid", results(impl.ValidFlag(f)), true)
	}
	for _, f := range badFlags() {
		same(t, "not valid", results(impl.ValidFlag(f)), false)
	}
	for cell := range 24 {
		for colour := range 256 {
			f := impl.Flag{}
			f[cell] = uint8(colour)
			same(t, "one cell", results(impl.ValidFlag(f)), colour < 6)
		}
	}
}

func TestPlainFlag(t *testing.T) {
	for _, colour := range extremes {
		f, code := impl.PlainFlag(colour)
		if colour < 0 || colour > 5 {
			same(t, "no colour", results(f, code), impl.Flag{}, impl.ErrRange)
			continue
		}
		same(t, "plain", results(f, code), plain(uint8(colour)), impl.OK)
	}
}

func TestStripesOf(t *testing.T) {
	tests := []struct {
		colours []int64
		upright bool
		want    string
	}{
		{[]int64{0}, true, "wwwwww/wwwwww/wwwwww/wwwwww"},
		{[]int64{0, 2}, true, "wwwrrr/wwwrrr/wwwrrr/wwwrrr"},
		{[]int64{3, 0, 2}, true, "bbwwrr/bbwwrr/bbwwrr/bbwwrr"},
		{[]int64{0, 1, 2, 3}, true, "wwyrrb/wwyrrb/wwyrrb/wwyrrb"},
		{[]int64{0, 1, 2, 3, 4}, true, "wwyrbg/wwyrbg/wwyrbg/wwyrbg"},
		{[]int64{5, 4, 3, 2, 1, 0}, true, "kgbryw/kgbryw/kgbryw/kgbryw"},
		{[]int64{5}, false, "kkkkkk/kkkkkk/kkkkkk/kkkkkk"},
		{[]int64{0, 2}, false, "wwwwww/wwwwww/rrrrrr/rrrrrr"},
		{[]int64{3, 0, 2}, false, "bbbbbb/bbbbbb/wwwwww/rrrrrr"},
		{[]int64{0, 1, 2, 3}, false, "wwwwww/yyyyyy/rrrrrr/bbbbbb"},
		{[]int64{4, 4}, false, "gggggg/gggggg/gggggg/gggggg"},
	}
	for _, test := range tests {
		f, code := impl.StripesOf(test.colours, test.upright)
		same(t, test.want, results(impl.FlagText(f), code), test.want, impl.OK)
	}
}

func TestStripesOfRange(t *testing.T) {
	for _, upright := range []bool{true, false} {
		most := 4
		if upright {
			most = 6
		}
		for count := range 10 {
			f, code := impl.StripesOf(make([]int64, count), upright)
			want := int64(impl.ErrRange)
			if count >= 1 && count <= most {
				want = impl.OK
			}
			same(t, "count", results(f, code), impl.Flag{}, want)
		}
		f, code := impl.StripesOf(nil, upright)
		same(t, "nil", results(f, code), impl.Flag{}, impl.ErrRange)
		f, code = impl.StripesOf(make([]int64, 1000000), upright)
		same(t, "a million", results(f, code), impl.Flag{}, impl.ErrRange)
		for at := range most {
			for _, colour := range []int64{math.MinInt64, -256, -1, 6, 256, math.MaxInt64} {
				colours := []int64{1, 2, 3, 4, 5, 1}[:most]
				colours[at] = colour
				f, code = impl.StripesOf(colours, upright)
				same(t, "no colour", results(f, code), impl.Flag{}, impl.ErrRange)
			}
		}
	}
}

func TestPatternsOfTwoColours(t *testing.T) {
	tests := []struct {
		name    string
		pattern func(a, b int64) (impl.Flag, int64)
		text    string // with w for the first colour and b for the second one
	}{
		{"cross", impl.CrossOf, "wwbbww/bbbbbb/bbbbbb/wwbbww"},
		{"border", impl.BorderOf, "bbbbbb/bwwwwb/bwwwwb/bbbbbb"},
		{"chequers", impl.ChequersOf, "wbwbwb/bwbwbw/wbwbwb/bwbwbw"},
	}
	for _, test := range tests {
		for _, a := range extremes {
			for _, b := range extremes {
				f, code := test.pattern(a, b)
				if a < 0 || a > 5 || b < 0 || b > 5 {
					same(t, test.name, results(f, code), impl.Flag{}, impl.ErrRange)
					continue
				}
				letters := strings.NewReplacer("w", "wyrbgk"[a:a+1], "b", "wyrbgk"[b:b+1])
				same(t, test.name, results(impl.FlagText(f), code), letters.Replace(test.text), impl.OK)
			}
		}
	}
}

func isCell(x, y int64) bool { return x >= 0 && x <= 5 && y >= 0 && y <= 3 }

func TestCellOf(t *testing.T) {
	f := someFlags(5)[4]
	for _, x := range extremes {
		for _, y := range extremes {
			colour, code := impl.CellOf(f, x, y)
			if isCell(x, y) {
				same(t, "cell", results(colour, code), int64(f[x+6*y]), impl.OK)
			} else {
				same(t, "no cell", results(colour, code), 0, impl.ErrRange)
			}
			colour, code = impl.CellOf(plain(6), x, y)
			same(t, "not valid", results(colour, code), 0, impl.ErrInvalid)
		}
	}
}

func TestPaintCell(t *testing.T) {
	f := someFlags(5)[4]
	for _, x := range extremes {
		for _, y := range extremes {
			for _, colour := range extremes {
				g, code := impl.PaintCell(f, x, y, colour)
				want, wantCode := impl.Flag{}, int64(impl.ErrRange)
				if isCell(x, y) && colour >= 0 && colour <= 5 {
					want, wantCode = f, impl.OK
					want[x+6*y] = uint8(colour)
				}
				same(t, "paint", results(g, code), want, wantCode)
				g, code = impl.PaintCell(plain(6), x, y, colour)
				same(t, "not valid", results(g, code), impl.Flag{}, impl.ErrInvalid)
			}
		}
	}
	bad := plain(impl.ClRed)
	bad[0] = 6
	g, code := impl.PaintCell(bad, 0, 0, impl.ClRed)
	same(t, "the cell that is painted is not valid", results(g, code), impl.Flag{}, impl.ErrInvalid)
}

func TestRecolourFlag(t *testing.T) {
	for _, f := range someFlags(5) {
		for _, from := range extremes {
			for _, to := range extremes {
				g, code := impl.RecolourFlag(f, from, to)
				if from < 0 || from > 5 || to < 0 || to > 5 {
					same(t, "no colour", results(g, code), impl.Flag{}, impl.ErrRange)
				} else {
					letter := func(i int64) string { return "wyrbgk"[i : i+1] }
					want := strings.ReplaceAll(impl.FlagText(f), letter(from), letter(to))
					same(t, "recoloured", results(impl.FlagText(g), code), want, impl.OK)
				}
				g, code = impl.RecolourFlag(plain(7), from, to)
				same(t, "not valid", results(g, code), impl.Flag{}, impl.ErrInvalid)
			}
		}
	}
	g, code := impl.RecolourFlag(plain(7), 7, 0)
	same(t, "from a colour that is none", results(g, code), impl.Flag{}, impl.ErrInvalid)
}

func TestCountColours(t *testing.T) {
	for _, f := range someFlags(20) {
		counts, code := impl.CountColours(f)
		var want [6]int64
		for i, letter := range "wyrbgk" {
			want[i] = int64(strings.Count(impl.FlagText(f), string(letter)))
		}
		same(t, "counts", results(counts, code), want, impl.OK)
	}
	counts, code := impl.CountColours(plain(impl.ClBlack))
	same(t, "plain", results(counts, code), [6]int64{5: 24}, impl.OK)
	for _, f := range badFlags() {
		counts, code = impl.CountColours(f)
		same(t, "not valid", results(counts, code), [6]int64{}, impl.ErrInvalid)
	}
}

func TestBlurFlag(t *testing.T) {
	tests := []struct {
		name, text string
		want       [6]uint8
	}{
		{"two and two", "wwwrrr/wwwrrr/wwwrrr/wwwrrr", [6]uint8{0, 0, 2, 0, 0, 2}},
		{"two and two, the greater colour first", "kkrrgg/wwyybb/kwrygb/wkyrbg", [6]uint8{0, 1, 3, 0, 1, 3}},
		{"two and two, one beside the other", "kwrygb/kwrygb/bkgyrw/bkgyrw", [6]uint8{0, 1, 3, 3, 1, 0}},
		{"three and one, the one first", "wkywrw/kkyyrr/kkyyrr/kwyrrk", [6]uint8{5, 1, 2, 5, 1, 2}},
		{"two and one and one, the two greatest", "kkwyrg/wykkgb/wkrryb/ykbyrr", [6]uint8{5, 5, 4, 5, 2, 2}},
		{"four colours", "wybgkw/rbkyry/bkgrky/grybbr", [6]uint8{0, 1, 0, 2, 1, 1}},
		{"each block its own", "wwyyrr/wwyyrr/bbggkk/bbggkk", [6]uint8{0, 1, 2, 3, 4, 5}},
	}
	for _, test := range tests {
		blur, code := impl.BlurFlag(flag(test.text))
		same(t, test.name, results(blur, code), test.want, impl.OK)
	}
	for _, f := range badFlags() {
		blur, code := impl.BlurFlag(f)
		same(t, "not valid", results(blur, code), [6]uint8{}, impl.ErrInvalid)
	}
}

// TestAllBlocks puts all blocks that there can be in the place of each block.
func TestAllBlocks(t *testing.T) {
	for n := range 6 * 6 * 6 * 6 {
		for b := range 6 {
			f := plain(uint8(n % 5))
			corner := b/3*12 + b%3*2
			f[corner], f[corner+1], f[corner+6], f[corner+7] = uint8(n%6), uint8(n/6%6), uint8(n/36%6), uint8(n/216)
			blur, code := impl.BlurFlag(f)
			same(t, impl.FlagText(f), results(blur, code), toldBlur(f), impl.OK)
		}
	}
}

func TestDistances(t *testing.T) {
	list := someFlags(30)
	for _, f := range list {
		for _, g := range list {
			differ := int64(0)
			for i := range f {
				if f[i] != g[i] {
					differ++
				}
			}
			distance, code := impl.DistanceOf(f, g)
			same(t, "distance", results(distance, code), differ, impl.OK)
			blocks, code := impl.BlurDistance(f, g)
			same(t, "blur distance", results(blocks, code), toldApart(f, g), impl.OK)
		}
	}
	distance, code := impl.DistanceOf(plain(0), plain(5))
	same(t, "all cells", results(distance, code), 24, impl.OK)
	blocks, code := impl.BlurDistance(plain(0), plain(5))
	same(t, "all blocks", results(blocks, code), 6, impl.OK)
	blocks, code = impl.BlurDistance(flag("wwwrrr/wwwrrr/wwwrrr/wwwrrr"), flag("wwrrrr/wwwwrr/wwrwrr/wwwrrr"))
	same(t, "blocks with as many cells of two colours", results(blocks, code), 0, impl.OK)
}

func TestDistancesAreMetric(t *testing.T) {
	seed := numbers(3)
	list := append(someFlags(12), blockFlags(&seed, 12, 3)...)
	for _, distance := range []func(f, g impl.Flag) (int64, int64){impl.DistanceOf, impl.BlurDistance} {
		between := func(f, g impl.Flag) int64 {
			d, code := distance(f, g)
			if code != impl.OK || d < 0 {
				t.Fatalf("no distance: %d, %d", d, code)
			}
			return d
		}
		for _, f := range list {
			if between(f, f) != 0 {
				t.Errorf("a flag has a distance to itself: %s", impl.FlagText(f))
			}
			for _, g := range list {
				if between(f, g) != between(g, f) {
					t.Errorf("distances differ by direction: %s and %s", impl.FlagText(f), impl.FlagText(g))
				}
				for _, h := range list {
					if between(f, h) > between(f, g)+between(g, h) {
						t.Errorf("a way round is shorter: %s, %s, %s", impl.FlagText(f), impl.FlagText(g), impl.FlagText(h))
					}
				}
			}
		}
	}
	for _, f := range list {
		for _, g := range list {
			if d, _ := impl.DistanceOf(f, g); (d == 0) != (f == g) {
				t.Errorf("the distance of %s and %s is %d", impl.FlagText(f), impl.FlagText(g), d)
			}
		}
	}
}

func TestLooksLike(t *testing.T) {
	left, right := flag("rrwwww/rrwwww/wwwwww/wwwwww"), flag("wwwwrr/wwwwrr/wwwwww/wwwwww")
	below := flag("wwwwww/wwwwww/wwwwrr/wwwwrr")
	nearly := flag("wrwwww/rrwwwk/wwkwww/ykwwww")
	tests := []struct {
		name   string
		f, g   impl.Flag
		turned bool
		want   bool
	}{
		{"itself", left, left, false, true},
		{"itself, turned, though not as seen from the other side", left, left, true, true},
		{"other cells, the same blocks", left, nearly, false, true},
		{"other cells, turned", right, nearly, true, true},
		{"from the other side, not turned", left, right, false, false},
		{"from the other side", left, right, true, true},
		{"upside down is not from the other side", left, below, true, false},
		{"one block", left, plain(0), true, false},
	}
	for _, test := range tests {
		is, code := impl.LooksLike(test.f, test.g, test.turned)
		same(t, test.name, results(is, code), test.want, impl.OK)
	}
	seed := numbers(11)
	list := blockFlags(&seed, 60, 2)
	for _, f := range list {
		for _, g := range list {
			straight := toldApart(f, g) == 0
			is, code := impl.LooksLike(f, g, false)
			same(t, "not turned", results(is, code), straight, impl.OK)
			is, code = impl.LooksLike(f, g, true)
			same(t, "turned", results(is, code), straight || toldApart(toldMirror(f), g) == 0, impl.OK)
		}
	}
}

func TestIsUpsideDown(t *testing.T) {
	f := flag("wyrbgk/wwwwww/kkkkkk/rrrrrr")
	tests := []struct {
		name, text string
		want       bool
	}{
		{"upside down", "rrrrrr/kkkkkk/wwwwww/kgbryw", true},
		{"itself", "wyrbgk/wwwwww/kkkkkk/rrrrrr", false},
		{"from the other side", "kgbryw/wwwwww/kkkkkk/rrrrrr", false},
		{"rows only", "rrrrrr/kkkkkk/wwwwww/wyrbgk", false},
		{"one cell less", "rrrrrr/kkkkkk/wwwwww/kgbryy", false},
	}
	for _, test := range tests {
		is, code := impl.IsUpsideDown(f, flag(test.text))
		same(t, test.name, results(is, code), test.want, impl.OK)
		is, code = impl.IsUpsideDown(flag(test.text), f)
		same(t, test.name+", the other way", results(is, code), test.want, impl.OK)
	}
	is, code := impl.IsUpsideDown(plain(3), plain(3))
	same(t, "a plain flag", results(is, code), true, impl.OK)
}

func TestTwoFlagsInvalid(t *testing.T) {
	good := plain(1)
	for _, bad := range badFlags() {
		for _, pair := range [][2]impl.Flag{{bad, good}, {good, bad}, {bad, bad}} {
			f, g := pair[0], pair[1]
			distance, code := impl.DistanceOf(f, g)
			same(t, "DistanceOf", results(distance, code), 0, impl.ErrInvalid)
			distance, code = impl.BlurDistance(f, g)
			same(t, "BlurDistance", results(distance, code), 0, impl.ErrInvalid)
			for _, turned := range []bool{true, false} {
				is, code := impl.LooksLike(f, g, turned)
				same(t, "LooksLike", results(is, code), false, impl.ErrInvalid)
			}
			is, code := impl.IsUpsideDown(f, g)
			same(t, "IsUpsideDown", results(is, code), false, impl.ErrInvalid)
		}
	}
}

func TestFlagText(t *testing.T) {
	same(t, "letters", results(impl.FlagText(impl.Flag{0, 1, 2, 3, 4, 5, 5, 4, 3, 2, 1, 0, 1, 1, 1, 1, 1, 1, 2, 3, 2, 3, 2, 3})), "wyrbgk/kgbryw/yyyyyy/rbrbrb")
	for _, f := range someFlags(200) {
		back, code := impl.ReadFlag(impl.FlagText(f))
		same(t, "read", results(back, code), f, impl.OK)
	}
	for _, f := range badFlags() {
		same(t, "not valid", results(impl.FlagText(f)), "")
	}
}

func TestReadFlagSyntax(t *testing.T) {
	good := "wwbbww/bbbbbb/bbbbbb/wwbbww"
	texts := []string{
		"", "w", "/", "///", "////", "wwwwww", good + "/", "/" + good, good + "\n", good + " ", " " + good,
		good + "\x00", good + "/wwwwww", good + "/" + good, good + good, good[7:], good[:20], good[:26], good[1:],
		strings.ReplaceAll(good, "/", ""), strings.ReplaceAll(good, "/", "\n"), strings.ReplaceAll(good, "/", " "),
		strings.ReplaceAll(good, "/", "//"), strings.ReplaceAll(good, "/", "\\"), strings.ToUpper(good),
		"wwwww/wwwwwww/wwwwww/wwwwww", "wwwwwww/wwwww/wwwwww/wwwwww", "wwwwww/wwwwww/wwwwww/wwwww/", "/wwwww/wwwwww/wwwwww/wwwwww",
		"wwww/wwww/wwww/wwww/wwww/wwww", "wwwwww//wwwwww/wwwwww", "öööwww/wwwwww/wwwwww/wwwwww", "wwwwww/wwwwww/wwwwww/wwww\u00e9",
		"012345/012345/012345/012345", "blue", strings.Repeat("w", 27), strings.Repeat("/", 1000000), strings.Repeat("wwwwww/", 100000),
	}
	for at := range good {
		for _, letter := range []byte("wyrbgkWa/0 \n\x00\xff") {
			changed := good[:at] + string([]byte{letter}) + good[at+1:]
			right := strings.IndexByte("wyrbgk", letter) >= 0 && good[at] != '/' || letter == good[at]
			if _, code := impl.ReadFlag(changed); (code == impl.OK) != right {
				t.Errorf("%q: code %d", changed, code)
			}
			if !right {
				texts = append(texts, changed)
			}
		}
		texts = append(texts, good[:at]+good[at+1:])
	}
	for _, text := range texts {
		f, code := impl.ReadFlag(text)
		same(t, text[:min(len(text), 60)], results(f, code), impl.Flag{}, impl.ErrSyntax)
	}
}

func TestExampleOfFlags(t *testing.T) {
	stripes, code := impl.StripesOf([]int64{impl.ClWhite, impl.ClRed}, true)
	same(t, "stripes", results(impl.FlagText(stripes), code), "wwwrrr/wwwrrr/wwwrrr/wwwrrr", impl.OK)
	blur, code := impl.BlurFlag(stripes)
	same(t, "blurred stripes", results(blur, code), [6]uint8{impl.ClWhite, impl.ClWhite, impl.ClRed, impl.ClWhite, impl.ClWhite, impl.ClRed}, impl.OK)
	cross, code := impl.CrossOf(impl.ClWhite, impl.ClBlue)
	same(t, "cross", results(impl.FlagText(cross), code), "wwbbww/bbbbbb/bbbbbb/wwbbww", impl.OK)
	white, code := impl.PlainFlag(impl.ClWhite)
	same(t, "white", results(white, code), impl.Flag{}, impl.OK)
	distance, code := impl.DistanceOf(cross, white)
	same(t, "distance", results(distance, code), 16, impl.OK)
	chequers, _ := impl.ChequersOf(impl.ClWhite, impl.ClBlack)
	blur, code = impl.BlurFlag(chequers)
	same(t, "blurred chequers", results(blur, code), [6]uint8{}, impl.OK)
	yellow, _ := impl.PlainFlag(impl.ClYellow)
	red, _ := impl.PlainFlag(impl.ClRed)
	set := []impl.Flag{white, yellow, red}
	for i, f := range set {
		for _, g := range slices.Concat(set[:i], set[i+1:]) {
			blocks, code := impl.BlurDistance(f, g)
			same(t, "plain flags", results(blocks, code), 6, impl.OK)
		}
	}
}
