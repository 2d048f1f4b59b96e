package tests

import (
	"strconv"
	"strings"
	"testing"

	"loop.example/g01299/impl"
)

func TestPromise9TextBack(t *testing.T) {
	full, _ := impl.EvenLocker(20, 40, 4)
	one, _ := impl.EvenLocker(1, 40, 4)
	tests := []struct {
		l    impl.Locker
		text string
	}{
		{impl.Locker{}, "-"},
		{impl.Locker{Flags: [40]int16{3: 2, 5: 1}, Subs: [4]int16{1}}, "3x2 5x1 s1x1"},
		{impl.Locker{Flags: [40]int16{0: 20, 39: 1}}, "0x20 39x1"},
		{impl.Locker{Subs: [4]int16{3: 20}}, "s4x20"},
		{impl.Locker{Flags: [40]int16{10: 10}, Subs: [4]int16{1, 2, 3, 4}}, "10x10 s1x1 s2x2 s3x3 s4x4"},
		{full, toldLockerText(full)}, {one, toldLockerText(one)},
	}
	for _, test := range tests {
		same(t, test.text, results(impl.LockerText(test.l)), test.text)
		same(t, test.text, results(impl.ReadLocker(test.text)), test.l, impl.OK)
	}
	for _, l := range someLockers(300) {
		text := toldLockerText(l)
		same(t, text, results(impl.LockerText(l)), text)
		same(t, text, results(impl.ReadLocker(text)), l, impl.OK)
	}
	for i := range 44 {
		for count := range int16(23) {
			var l impl.Locker
			if i < 40 {
				l.Flags[i] = count
			} else {
				l.Subs[i-40] = count
			}
			text := toldLockerText(l)
			if count > 20 {
				same(t, text, results(impl.LockerText(l)), "")
				same(t, text, results(impl.ReadLocker(text)), impl.Locker{}, impl.ErrSyntax)
			} else {
				same(t, text, results(impl.LockerText(l)), text)
				same(t, text, results(impl.ReadLocker(text)), l, impl.OK)
			}
		}
	}
	for _, bad := range badLockers() {
		same(t, "text of an invalid locker", results(impl.LockerText(bad)), "")
		same(t, toldLockerText(bad), results(impl.ReadLocker(toldLockerText(bad))), impl.Locker{}, impl.ErrSyntax)
	}
}

func TestPromise9NoText(t *testing.T) {
	full, _ := impl.EvenLocker(20, 40, 4)
	texts := []string{
		"", " ", "  ", "--", "- ", " -", "- -", "-x", "-x1", "- 1x1", "1x1 -", "−", "0", "x", "xx", "x1", "1x", "1x0", "0x0", "s1x0", "1x21", "s1x21", "1x100", "1x-1", "1x+1", "1x01", "1x00", "1x 1", "1 x1", "1x1x1", "1x1x", "1X1", "1*1", "1×1",
		"40x1", "41x1", "127x1", "128x1", "256x1", "260x1", "-1x1", "-4x1", "-10x1", "+1x1", "01x1", "00x1", "-0x1", "0x01", "1.0x1", "1x1.0", "1_0x1", "1x1_0", "1x65537", "1x65556", "1x4294967297", "1x99999999999999999999", "99999999999999999999x1",
		"s0x1", "s5x1", "s-1x1", "s+1x1", "s01x1", "s10x1", "sx1", "s1", "s", "S1x1", "ss1x1", "s1s1x1", "s 1x1", "s1x-1", "s1x01", "s257x1", "s-255x1", "s246x1", "/x1", "/", "s/x1",
		" 1x1", "1x1 ", "1x1  2x1", "1x1\t2x1", "1x1\n", "\n1x1", "1x1,2x1", "1x1;2x1", "1x12x1", "1x1 2x1 ", "1x1 \x00",
		"2x1 1x1", "s2x1 s1x1", "s1x1 1x1", "1x1 1x1", "1x1 1x2", "1x2 1x1", "s1x1 s1x1", "10x1 9x1", "1x1 s1x1 2x1", "1x1 2x0", "1x0 2x1", "1x1 s1x0", "1x1 0x0", "0x0 1x1", "1x1 junk", "junk 1x1", "0x5 junk", "junk", "1x1 /x1",
		toldLockerText(full) + " ", " " + toldLockerText(full), toldLockerText(full) + " s4x20", toldLockerText(full) + " 0x20", "-" + toldLockerText(full),
		strings.Repeat("1x1 ", 250000), strings.Repeat("1", 1000000), strings.Repeat(" ", 1000000), strings.Repeat("x", 1000000), strings.Repeat("-", 1000000), "1x" + strings.Repeat("0", 900000) + "1", strings.Repeat("0", 900000) + "1x1",
	}
	for _, text := range texts {
		same(t, strconv.Quote(text[:min(len(text), 60)]), results(impl.ReadLocker(text)), impl.Locker{}, impl.ErrSyntax)
	}
}

func TestPromise9ChangedTexts(t *testing.T) {
	texts := []string{"-", "3x2 5x1 s1x1", "0x20 39x1", "1x1 s1x10 s4x9", "10x10 20x20 30x3 s2x2 s3x13"}
	letters := []string{"", " ", "-", "+", "/", "0", "1", "2", "3", "4", "5", "9", "s", "x", "\n", "\xff"}
	read, refused := readAsTold(t, changedTexts(texts, letters), toldLocker, impl.ReadLocker)
	if read < 100 || refused < 100 {
		t.Errorf("%d texts are lockers', %d are not", read, refused)
	}
}

// TestPromise9EveryShortText holds ReadLocker against a pattern of texts.
func TestPromise9EveryShortText(t *testing.T) {
	found, _ := readAsTold(t, everyText(" -014sx", 7), toldLocker, impl.ReadLocker)
	// "-", one word with 6 kinds or 2 substitutes and 5 numbers, and two words with 2 of 3 kinds and 2 numbers each
	same(t, "how many are lockers'", results(int64(found)), 1+(6+2)*5+3*2*2)
}
