package tests

import (
	"fmt"
	"iter"
	"strconv"
	"strings"
	"testing"

	"loop.example/g01299/impl"
)

func TestPromise16TextBack(t *testing.T) {
	tests := []struct{ words, text string }{
		{"", ""}, {"0+0", "0 up 0\n"}, {"100000+9999", "100000 up 9999\n"}, {"0+7 5+8 9-7", "0 up 7\n5 up 8\n9 down 7\n"}, {"10+10 10-10 10+10", "10 up 10\n10 down 10\n10 up 10\n"},
	}
	for _, test := range tests {
		same(t, test.text, results(impl.LogText(logOf(test.words))), test.text)
		same(t, test.text, results(impl.ReadLog(test.text)), logOf(test.words), impl.OK)
	}
	for _, g := range someLogs(300) {
		text := toldLogText(g)
		same(t, text, results(impl.LogText(g)), text)
		same(t, text, results(impl.ReadLog(text)), g, impl.OK)
	}
	for k, bad := range badLogs() {
		name := fmt.Sprint("invalid log ", k)
		same(t, name, results(impl.LogText(bad)), "")
		same(t, name, results(impl.ReadLog(toldLogText(bad))), impl.Log(nil), impl.ErrSyntax)
	}
	for length := range 70 {
		var text strings.Builder
		for i := range length {
			text.WriteString("5 up " + strconv.Itoa(i) + "\n")
		}
		g, code := impl.ReadLog(text.String())
		if length > 60 {
			same(t, fmt.Sprint("entries: ", length), results(g, code), impl.Log(nil), impl.ErrSyntax)
			continue
		}
		same(t, fmt.Sprint("entries: ", length), results(int64(len(g)), impl.LogText(g), code), length, text.String(), impl.OK)
	}
	for _, number := range logExtremes {
		digits := strconv.FormatInt(number, 10)
		texts := func(yield func(string) bool) {
			_ = yield(digits+" up 7\n") && yield("0 up 7\n"+digits+" down 7\n") && yield("5 up "+digits+"\n") && yield("5 up "+digits+"\n6 down "+digits+"\n") && yield("5 down "+digits+"\n")
		}
		readAsTold(t, texts, toldLog, impl.ReadLog)
	}
}

func TestPromise16NoText(t *testing.T) {
	full := strings.Repeat("5 up 7\n5 down 7\n", 30)
	texts := []string{
		" ", "\n", "\n\n", "x", "x\n", "0", "0\n", "0 up\n", "up 7\n", "0 up 7", "0 up 7\n5 up 8", "0 up 7\n\n", "\n0 up 7\n", "0 up 7\n\n5 up 8\n", "0 up 7\n ", "0 up 7\n \n", "0 up 7\nx", "0 up 7\nx\n", "0 up 7 \n", " 0 up 7\n", "0  up 7\n", "0 up  7\n", "0 up 7\n 5 up 8\n", "0 up 7 \n5 up 8\n",
		"0 up 7 8\n", "0 up 7 up 8\n", "0 0 up 7\n", "0 up up 7\n", "up 0 7\n", "0 7 up\n", "0 7\n", "0 7 7\n", "0  7\n", "0 up \n", " up 7\n", " up \n", "  \n", "0 up 7 5 up 8\n", "0,up,7\n", "0\tup\t7\n", "0 up\t7\n", "0up7\n", "0 up7\n", "0up 7\n",
		"0 UP 7\n", "0 Up 7\n", "0 hoist 7\n", "0 x 7\n", "0 u 7\n", "0 upp 7\n", "0 + 7\n", "0 true 7\n", "0 false 7\n", "0 updown 7\n", "0 down 7\n", "0 up 7\n5 Down 7\n", "0 up 7\n5 dow 7\n", "0 up 7\n5 downs 7\n", "0 up 7\n5 - 7\n", "0 up 7\n5 haul 7\n", "0 up 7\n5 d 7\n",
		"00 up 7\n", "05 up 7\n", "0 up 07\n", "0 up 00\n", "+5 up 7\n", "-5 up 7\n", "-0 up 7\n", "+0 up 7\n", "0 up +7\n", "0 up -7\n", "0 up -0\n", "0 up +0\n", "5 up 7\n06 down 7\n", "5 up 7\n6 down 07\n", "5 up 7\n+6 down 7\n",
		"100001 up 7\n", "1000000 up 7\n", "0 up 10000\n", "0 up 99999\n", "4294967296 up 7\n", "0 up 4294967303\n", "18446744073709551616 up 7\n", "0 up 18446744073709551623\n", "99999999999999999999 up 7\n", "0 up 99999999999999999999\n",
		"0 up 7\n1 up 7\n", "0 down 7\n1 up 7\n", "5 up 7\n4 down 7\n", "5 up 7\n4 up 8\n", "0 up 7\n0 down 8\n", "0 up 7\n1 down 7\n2 down 7\n",
		"0 up 7\r\n", "0 up 7\r", "0 up 7\x00\n", "\x000 up 7\n", "0\u00a0up 7\n", "0 up 7;\n", "0 up 7.\n", "0.0 up 7\n", "0x0 up 7\n", "1e1 up 7\n", "1_0 up 7\n", "0 up 1_0\n", "0 up 0x7\n", "０ up 7\n", "0 up ７\n", "0 up 7 # seven\n", "\"0 up 7\"\n", "\ufeff0 up 7\n", "0 up 7\v\n", "0 up 7/5 up 8\n", "0 up 7;5 up 8\n",
		full + "5 up 7\n", full + "x", full + "5 up 7", full + "\n", full + " ", "\n" + full, full[:len(full)-1], full + full, strings.Replace(full, "\n", "\n\n", 1), strings.ReplaceAll(full, "\n", "\r\n"),
		strings.Repeat("\n", 1000000), strings.Repeat(" ", 1000000), strings.Repeat("x", 1000000), strings.Repeat("0", 1000000), strings.Repeat("0 up 7\n", 142857), strings.Repeat("0 ", 500000) + "\n", strings.Repeat("0", 900000) + " up 7\n", "0 up " + strings.Repeat("0", 900000) + "7\n", "0 up " + strings.Repeat("7", 900000) + "\n", "0 " + strings.Repeat("up", 400000) + " 7\n", "0 up 7" + strings.Repeat(" ", 900000) + "\n", full + strings.Repeat("5 up 7\n5 down 7\n", 50000),
	}
	for _, text := range texts {
		same(t, strconv.Quote(text[:min(len(text), 60)]), results(impl.ReadLog(text)), impl.Log(nil), impl.ErrSyntax)
	}
}

func TestPromise16ChangedTexts(t *testing.T) {
	texts := []string{"0 up 7\n", "0 up 7\n5 up 8\n9 down 7\n", "99998 up 9998\n100000 down 9998\n", "10 up 10\n10 down 10\n10 up 10\n", strings.Repeat("0 up 7\n0 down 7\n", 30)}
	letters := []string{"", " ", "\n", "-", "+", "0", "1", "7", "9", "up", "down", "u", "x", "\xff"}
	read, refused := readAsTold(t, changedTexts(texts, letters), toldLog, impl.ReadLog)
	if read < 100 || refused < 100 {
		t.Errorf("%d texts are logs', %d are not", read, refused)
	}
}

// withWords puts the words of logs for some letters.
func withWords(texts iter.Seq[string]) iter.Seq[string] {
	words := strings.NewReplacer("u", " up ", "d", " down ", "n", "\n")
	return func(yield func(string) bool) {
		for text := range texts {
			if !yield(words.Replace(text)) {
				return
			}
		}
	}
}

// TestPromise16EveryShortText holds ReadLog against a pattern of texts.
func TestPromise16EveryShortText(t *testing.T) {
	found, _ := readAsTold(t, withWords(everyText("01udn", 8)), toldLog, impl.ReadLog)
	// One is empty; 5 lengths of the time have 32 texts of one entry each; with two entries the times are in 3 ways, and the signals in 4.
	same(t, "how many are logs'", results(int64(found)), 1+5*32+3*4)
}
