package tests

import (
	"slices"
	"strconv"
	"strings"
	"testing"

	"loop.example/g01299/impl"
)

func TestPromise13TextBack(t *testing.T) {
	tests := []struct {
		line []impl.Ship
		text string
	}{
		{[]impl.Ship{{}}, "0/0/0"}, {[]impl.Ship{{Sight: 6, Read: 60, Bend: 60}}, "6/60/60"}, {[]impl.Ship{{Sight: 1, Read: 2, Bend: 3}}, "1/2/3"}, {[]impl.Ship{{Sight: 3, Read: 10, Bend: 9}}, "3/10/9"},
		{[]impl.Ship{{Bend: 2}, {Sight: 1, Read: 3, Bend: 1}, {Sight: 2, Read: 2, Bend: 1}}, "0/0/2 1/3/1 2/2/1"},
		{make([]impl.Ship, 20), strings.Repeat("0/0/0 ", 19) + "0/0/0"},
	}
	for _, test := range tests {
		same(t, test.text, results(impl.LineText(test.line)), test.text)
		same(t, test.text, results(impl.ReadLine(test.text)), test.line, impl.OK)
	}
	for _, line := range someLines(400) {
		text := toldLineText(line)
		same(t, text, results(impl.LineText(line)), text)
		same(t, text, results(impl.ReadLine(text)), line, impl.OK)
	}
	for number := -130; number < 400; number++ {
		digits := strconv.Itoa(number)
		for _, text := range []string{digits + "/0/0", "0/" + digits + "/0", "0/0/" + digits, "1/2/3 " + digits + "/0/0", "1/2/3 0/" + digits + "/0", "1/2/3 0/0/" + digits + " 1/2/3"} {
			want, valid := toldLine(text)
			if !valid {
				same(t, text, results(impl.ReadLine(text)), []impl.Ship(nil), impl.ErrSyntax)
				continue
			}
			same(t, text, results(impl.ReadLine(text)), want, impl.OK)
		}
	}
	for count := range 24 {
		line := slices.Repeat([]impl.Ship{{Sight: 6, Read: 10, Bend: 59}}, count)
		text := toldLineText(line)
		if count < 1 || count > 20 {
			same(t, text, results(impl.LineText(line)), "")
			same(t, text, results(impl.ReadLine(text)), []impl.Ship(nil), impl.ErrSyntax)
			continue
		}
		same(t, text, results(impl.LineText(line)), text)
		same(t, text, results(impl.ReadLine(text)), line, impl.OK)
	}
	for _, bad := range badLines() {
		same(t, "text of an invalid line", results(impl.LineText(bad)), "")
		same(t, toldLineText(bad), results(impl.ReadLine(toldLineText(bad))), []impl.Ship(nil), impl.ErrSyntax)
	}
}

func TestPromise13NoText(t *testing.T) {
	full := strings.Repeat("6/60/60 ", 19) + "6/60/60"
	texts := []string{
		"", " ", "  ", "/", "//", "///", "0", "0/0", "0/0/", "/0/0", "0//0", "0/0/0/", "/0/0/0", "0/0/0/0", "1/2", "1/2/3/4", "1/2/3 1/2", "1/2 1/2/3", "1/2/3 1/2/3/4", "1/2/3/4 1/2/3", "1/2/3 4", "1/2/3 /", "x", "x/x/x", "1/x/3", "1/2/x",
		"00/0/0", "0/00/0", "0/0/00", "01/2/3", "1/02/3", "1/2/03", "1/2/3 1/02/3", "0/060/0", "+1/2/3", "1/+2/3", "1/2/+3", "-1/2/3", "1/-2/3", "1/2/-3", "-0/0/0", "0/-0/0", "0/0/-0", "0/0/+0",
		"7/0/0", "0/61/0", "0/0/61", "127/0/0", "128/0/0", "256/0/0", "0/256/0", "0/0/257", "0/0/-255", "0/65536/0", "4294967296/0/0", "0/0/18446744073709551616", "99999999999999999999/0/0", "0/99999999999999999999/0", "10/1/1", "1/100/1",
		" 1/2/3", "1/2/3 ", "1/2/3  1/2/3", " 1/2/3 1/2/3", "1/2/3 1/2/3 ", "1/2/3   1/2/3", "1 /2/3", "1/ 2/3", "1/2/ 3", "1 / 2 / 3", "1/2/3\t1/2/3", "1/2/3\n", "\n1/2/3", "1/2/3\n1/2/3", "1/2/3,1/2/3", "1/2/31/2/3", "1 2 3", "1,2,3", "1\\2\\3", "1//2//3", "1/2/3\x00", "\x001/2/3", "1/2/3\u00a01/2/3", "1/2/3\xa01/2/3",
		"0x1/2/3", "1/0b1/3", "1/1_0/3", "1/1e1/3", "1.0/2/3", "1/2./3", "1/2/.3", "１/2/3", "1/²/3", "1/2/3x", "s1/2/3", "a/b/c", "[1/2/3]", "'1/2/3'",
		full + " ", " " + full, full + " 6/60/60", full + " x", full + " 0/0/0 0/0/0", strings.Replace(full, " ", "  ", 1), full[:len(full)-3], full + "/60",
		strings.Repeat("1/2/3 ", 166666), strings.Repeat("1", 1000000), strings.Repeat(" ", 1000000), strings.Repeat("/", 1000000), strings.Repeat("0", 900000) + "1/2/3", "1/" + strings.Repeat("0", 900000) + "2/3", "1/2/" + strings.Repeat("9", 900000), strings.Repeat("x", 1000000),
	}
	for _, text := range texts {
		same(t, strconv.Quote(text[:min(len(text), 60)]), results(impl.ReadLine(text)), []impl.Ship(nil), impl.ErrSyntax)
	}
}

func TestPromise13ChangedTexts(t *testing.T) {
	texts := []string{"0/0/0", "6/60/60", "0/0/2 1/3/1 2/2/1", "3/10/9 4/59/60", strings.Repeat("6/6/6 ", 19) + "0/0/0"}
	letters := []string{"", " ", "-", "+", "/", "0", "1", "5", "6", "7", "9", "x", "\n", "\xff"}
	read, refused := readAsTold(t, changedTexts(texts, letters), toldLine, impl.ReadLine)
	if read < 100 || refused < 100 {
		t.Errorf("%d texts are lines', %d are not", read, refused)
	}
}

// TestPromise13EveryShortText holds ReadLine against a pattern of texts.
func TestPromise13EveryShortText(t *testing.T) {
	found, _ := readAsTold(t, everyText(" -/067", 8), toldLine, impl.ReadLine)
	// Sight is 0 or 6; the two others have 3 digits, or are 60.
	same(t, "how many are lines'", results(int64(found)), 2*4*4)
}
