package tests

import (
	"fmt"
	"strconv"
	"strings"
	"testing"

	"loop.example/g01299/impl"
)

func TestBookConstants(t *testing.T) {
	same(t, "constants", results(int64(impl.MaxBookKinds), int64(impl.MaxBookLength), int64(impl.MaxPhrases), int64(impl.MaxPhrase), int64(impl.MaxSpelled)), 10, 3, 100, 40, 8)
}

func TestPromise6TextBack(t *testing.T) {
	tests := []struct {
		b    impl.Book
		text string
	}{
		{book(3, 2, 0), "3 2 0\n"},
		{book(10, 3, 4, "yes"), "10 3 4\nyes\n"},
		{book(3, 2, 1, "yes", "no", "wait for me"), "3 2 1\nyes\nno\nwait for me\n"},
		{book(1, 1, 0, " "), "1 1 0\n \n"},
		{book(2, 2, 0, " a ", "3 2 0", "~"), "2 2 0\n a \n3 2 0\n~\n"},
		{book(2, 2, 0, strings.Repeat("x", 40)), "2 2 0\n" + strings.Repeat("x", 40) + "\n"},
	}
	for _, test := range tests {
		same(t, test.text, results(impl.BookText(test.b)), test.text)
		same(t, test.text, results(impl.ReadBook(test.text)), test.b, impl.OK)
	}
	for _, b := range manyBooks() {
		text := fmt.Sprintln(b.Kinds, b.Length, b.Subs)
		for _, phrase := range b.Phrases {
			text += phrase + "\n"
		}
		same(t, nameOf(b), results(impl.BookText(b)), text)
		same(t, nameOf(b), results(impl.ReadBook(text)), b, impl.OK)
	}
	for _, b := range badBooks() {
		same(t, nameOf(b), results(impl.BookText(b)), "")
	}
}

func TestPromise6NoText(t *testing.T) {
	hundred := impl.BookText(filled(10, 3, 4, 100))
	texts := []string{
		"", "\n", "x", "3 2 0", "3 2 0\n\n", "\n3 2 0\n", "3 2 0\r\n", " 3 2 0\n", "3 2 0 \n", "3  2 0\n", "3 2  0\n", "3\t2 0\n", "3 2 0 0\n", "3 2\n", "3\n", "3 2 \n", " 2 0\n", "3  0\n", "320\n",
		"0 2 0\n", "11 2 0\n", "3 0 0\n", "3 4 0\n", "3 2 -1\n", "3 2 5\n", "-3 2 0\n", "259 2 0\n", "3 258 0\n", "3 2 256\n", "-253 2 0\n", "128 2 0\n", "99999999999999999999 2 0\n",
		"03 2 0\n", "3 02 0\n", "3 2 00\n", "3 2 -0\n", "+3 2 0\n", "3 +2 0\n", "3 2 +0\n", "3.0 2 0\n", "0x3 2 0\n", "3 2 x\n", "3 2 0_\n", "1_0 2 0\n", "3,2,0\n", "３ 2 0\n", "3 2 0x0\n", "3 2 o\n",
		"3 2 0\nyes", "3 2 0\nyes\nno", "3 2 0\nyes\n\n", "3 2 0\n\nyes\n", "3 2 0\nyes\n\nno\n", "3 2 0\nyes\nyes\n", "3 2 0\n" + strings.Repeat("a", 41) + "\n",
		"3 2 0\nye\x1fs\n", "3 2 0\nyes\x7f\n", "3 2 0\n\x00\n", "3 2 0\né\n", "3 2 0\nyes\r\n", "3 2 0\nye\ts\n",
		"1 1 0\na\nb\n", "1 3 1\na\nb\nc\n", "2 2 0\na\nb\nc\nd\ne\n", "3 2 0\na\nb\nc\nd\ne\nf\ng\nh\ni\nj\n",
		hundred + "one more\n", hundred + "one more", hundred + "\n", hundred + "one more\nand another one\n", strings.TrimSuffix(hundred, "\n"), hundred + hundred,
		strings.Repeat("3 2 0\n", 160000), strings.Repeat("\n", 1000000), strings.Repeat(" ", 1000000), strings.Repeat("3", 1000000), "3 2 0\n" + strings.Repeat("a\n", 499990), "3 2 0\n" + strings.Repeat("a", 999990) + "\n", "3 2 " + strings.Repeat("0", 900000) + "\n", strings.Repeat("3 ", 500000),
	}
	for _, text := range texts {
		same(t, strconv.Quote(text[:min(len(text), 60)]), results(impl.ReadBook(text)), impl.Book{}, impl.ErrSyntax)
	}
}

func TestPromise6ChangedTexts(t *testing.T) {
	texts := []string{"3 2 0\nyes\nno\n", "10 3 4\n", "1 3 2\na\nb\nc\n", "2 1 4\nab\nb\n", impl.BookText(filled(2, 2, 0, 4))}
	letters := []string{"", "\n", " ", "0", "1", "2", "3", "4", "5", "-", "+", "~", "\x7f", "\x1f", "b", "\xff"}
	read, refused := readAsTold(t, changedTexts(texts, letters), toldBook, impl.ReadBook)
	if read < 100 || refused < 100 {
		t.Errorf("%d texts are books', %d are not", read, refused)
	}
}

// TestPromise6EveryFirstLine holds ReadBook against all short lines of some letters.
func TestPromise6EveryFirstLine(t *testing.T) {
	lines := func(yield func(string) bool) {
		for line := range everyText(" -0135", 6) {
			if !yield(line + "\n") {
				return
			}
		}
	}
	found, _ := readAsTold(t, lines, toldBook, impl.ReadBook)
	same(t, "how many are books'", results(int64(found)), 4*2*3) // with the kinds 1, 3, 5 and 10, the lengths 1 and 3, and 0, 1 or 3 substitutes
}
