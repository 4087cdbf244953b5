package lex

import (
	"slices"
	"strings"
	"testing"
	"unsafe"

	"lowdown/api"
)

// parts are all bytes that longer words are made of, written out apart from the program's own rule.
const parts = "abcdefghijklmnopqrstuvwxyz0123456789.+-*<="

func expectWords(t *testing.T, s string, words []string, starts []int) {
	t.Helper()
	w, at, n, e := Words(s)
	if e != api.OK || n != 0 || !slices.Equal(w, words) || !slices.Equal(at, starts) {
		t.Errorf("Words(%q) = %q, %v, %d, %d; want %q, %v, 0, 0", s, w, at, n, e, words, starts)
	}
}

func expectError(t *testing.T, s string, where int, errno api.Errno) {
	t.Helper()
	w, at, n, e := Words(s)
	if e != errno || n != where || len(w) != 0 || len(at) != 0 {
		t.Errorf("Words of %d bytes = %q, %v, %d, %d; want none, none, %d, %d", len(s), w, at, n, e, where, errno)
	}
}

func TestWordsInOrder(t *testing.T) {
	expectWords(t, "(a 12)", []string{"(", "a", "12", ")"}, []int{0, 1, 3, 5})
	expectWords(t, "(module m (var x low) (fun f (p) x))",
		[]string{"(", "module", "m", "(", "var", "x", "low", ")", "(", "fun", "f", "(", "p", ")", "x", ")", ")"},
		[]int{0, 1, 8, 10, 11, 15, 17, 20, 22, 23, 27, 29, 30, 31, 33, 34, 35})
	expectWords(t, "(call m.f (+ a 1))",
		[]string{"(", "call", "m.f", "(", "+", "a", "1", ")", ")"},
		[]int{0, 1, 6, 10, 11, 13, 15, 16, 17})
}

func TestNoWords(t *testing.T) {
	for _, s := range []string{"", " ", "\n", " \n \n\n  "} {
		expectWords(t, s, nil, nil)
	}
}

func TestBetweenWords(t *testing.T) {
	expectWords(t, "  a \n\n b\nc ", []string{"a", "b", "c"}, []int{2, 7, 9})
	expectWords(t, "\na", []string{"a"}, []int{1})
	expectWords(t, "a\n", []string{"a"}, []int{0})
}

func TestBracketsAreWordsOfTheirOwn(t *testing.T) {
	expectWords(t, "(", []string{"("}, []int{0})
	expectWords(t, "))((", []string{")", ")", "(", "("}, []int{0, 1, 2, 3})
	expectWords(t, "a(b)c", []string{"a", "(", "b", ")", "c"}, []int{0, 1, 2, 3, 4})
	expectWords(t, "+(-)", []string{"+", "(", "-", ")"}, []int{0, 1, 2, 3})
}

func TestWordsAreAsLongAsTheyMayBe(t *testing.T) {
	expectWords(t, parts, []string{parts}, []int{0})
	expectWords(t, "12ab.+-*<=9 x", []string{"12ab.+-*<=9", "x"}, []int{0, 12})
	for _, first := range parts {
		for _, second := range parts {
			word := string(first) + string(second)
			expectWords(t, word, []string{word}, []int{0})
		}
	}
}

func TestEachByte(t *testing.T) {
	for b := range 256 {
		c := string([]byte{byte(b)})
		s := "x" + c + "y"
		switch {
		case c == " " || c == "\n":
			expectWords(t, s, []string{"x", "y"}, []int{0, 2})
		case c == "(" || c == ")":
			expectWords(t, s, []string{"x", c, "y"}, []int{0, 1, 2})
		case strings.Contains(parts, c):
			expectWords(t, s, []string{s}, []int{0})
		default:
			expectError(t, s, 1, api.ErrSyntax)
		}
	}
}

func TestFirstByteThatMayNotBe(t *testing.T) {
	expectError(t, "A", 0, api.ErrSyntax)
	expectError(t, "(a)\t", 3, api.ErrSyntax)
	expectError(t, "ab\r\n", 2, api.ErrSyntax)
	expectError(t, "(a ; b ; \x00", 3, api.ErrSyntax)
	expectError(t, "a b é", 4, api.ErrSyntax)
	expectError(t, "a\xff\xfe", 1, api.ErrSyntax)
	expectError(t, strings.Repeat("a", api.MaxText-1)+"_", api.MaxText-1, api.ErrSyntax)
}

func TestLength(t *testing.T) {
	full := strings.Repeat("a", api.MaxText)
	expectWords(t, full, []string{full}, []int{0})
	expectError(t, full+"a", 0, api.ErrLarge)
	expectError(t, strings.Repeat(" ", api.MaxText+1), 0, api.ErrLarge)
	// Too long is told ahead of what may not be.
	expectError(t, "A"+full, 0, api.ErrLarge)
	expectError(t, full+"A", 0, api.ErrLarge)

	brackets := strings.Repeat("()", api.MaxText/2)
	w, at, _, e := Words(brackets)
	if e != api.OK || len(w) != api.MaxText || len(at) != api.MaxText || strings.Join(w, "") != brackets || at[api.MaxText-1] != api.MaxText-1 {
		t.Error(len(w), len(at), e)
	}
}

func TestWordsAreNewMemory(t *testing.T) {
	s := strings.Clone("(set xyz (+ abc 12))")
	first := uintptr(unsafe.Pointer(unsafe.StringData(s)))
	words, _, _, _ := Words(s)
	for _, w := range words {
		at := uintptr(unsafe.Pointer(unsafe.StringData(w)))
		if at >= first && at < first+uintptr(len(s)) {
			t.Errorf("%q lies in what was handed in", w)
		}
	}
}

func TestAnswersShareNothing(t *testing.T) {
	words, starts, _, _ := Words("(a)")
	again, startsAgain, _, _ := Words("(a)")
	words[0], starts[0] = "changed", 99
	if again[0] != "(" || startsAgain[0] != 0 {
		t.Error("two answers share memory")
	}
}
