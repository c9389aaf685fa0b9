package lex_test

import (
	"slices"
	"strings"
	"testing"
	"unicode/utf8"

	"ridgeway/api"
	"ridgeway/lex"
)

func word(at int, s string) api.Tok { return api.Tok{Kind: 0, At: at, S: s} }
func line(at int) api.Tok           { return api.Tok{Kind: 1, At: at} }
func end(at int) api.Tok            { return api.Tok{Kind: 2, At: at} }

// P11.1
func TestAll(t *testing.T) {
	if lex.Word != 0 || lex.Line != 1 || lex.End != 2 {
		t.Error("kinds", lex.Word, lex.Line, lex.End)
	}
	for _, x := range []struct {
		s string
		l []api.Tok
	}{
		{"", []api.Tok{end(0)}},
		{"as 7 # é\n", []api.Tok{word(0, "as"), word(3, "7"), line(8), end(9)}},
		{"a", []api.Tok{word(0, "a"), end(1)}},
		{"\n", []api.Tok{line(0), end(1)}},
		{" \t ", []api.Tok{end(3)}},
		{"\t a\tbc  d \n\n e", []api.Tok{word(2, "a"), word(4, "bc"), word(8, "d"), line(10), line(11), word(13, "e"), end(14)}},
		{"az09./-", []api.Tok{word(0, "az09./-"), end(7)}},
		{"10.0.0.0/8 -.//", []api.Tok{word(0, "10.0.0.0/8"), word(11, "-.//"), end(15)}},
		{"#", []api.Tok{end(1)}},
		{"#a b\nc", []api.Tok{line(4), word(5, "c"), end(6)}},
		{"a#b\nc#d", []api.Tok{word(0, "a"), line(3), word(4, "c"), end(7)}},
		{"# ## A!\r\x00\u2028\nb", []api.Tok{line(10), word(11, "b"), end(12)}},
		{"# €é😀\ufffd\na", []api.Tok{line(6), word(7, "a"), end(8)}},
		{"a\nb", []api.Tok{word(0, "a"), line(1), word(2, "b"), end(3)}},
	} {
		l, n, e := lex.All(x.s)
		if !slices.Equal(l, x.l) || n != utf8.RuneCountInString(x.s) || e != api.OK {
			t.Errorf("All(%q) = %v %d %v, want %v", x.s, l, n, e, x.l)
		}
	}
}

// P11.1: what is no word, blank, tab, line feed or comment.
func TestAllOfOtherSigns(t *testing.T) {
	for _, x := range []struct {
		s  string
		at int
	}{
		{"A", 0}, {"aZ", 1}, {"a\r\n", 1}, {"\v", 0}, {"\f", 0}, {"\x00", 0}, {"a_b", 1}, {"a b:c", 3}, {"a,b", 1}, {"a\n!", 2},
		{"`", 0}, {"{", 0}, {"@", 0}, {"[", 0}, {"a;", 1}, {"(", 0}, {"+1", 0}, {"a\"", 1}, {"\x7f", 0},
		{"aé", 1}, {"# é\né", 4}, {"\u00a0", 0}, {"\ufeffas 7", 0}, {"\ufffd", 0}, {"a\u2028", 1}, {"😀", 0}, {"ａ", 0}, {"٣", 0},
		{"\xff", 0}, {"a\x80", 1}, {"ab \xc3", 3}, {"# é\xff\n", 3}, {"#\xe2\x82", 1}, {"# ok\n#\xed\xa0\x80", 6}, {"#\xc0\x80", 1}, {"#\xf4\x90\x80\x80", 1}, {"#é\xa9", 2},
		{"A\xff", 0}, {"#\xffA", 1}, {"\xffA", 0},
	} {
		if l, at, e := lex.All(x.s); len(l) != 0 || at != x.at || e != api.ErrSign {
			t.Errorf("All(%q) = %v %d %v, want the place %d", x.s, l, at, e, x.at)
		}
	}
	for r := range rune(400) {
		good := strings.ContainsRune("abcdefghijklmnopqrstuvwxyz0123456789./- \t\n#", r)
		if _, _, e := lex.All("a" + string(r)); (e == api.OK) != good || !good && e != api.ErrSign {
			t.Errorf("%q: %v", r, e)
		}
	}
}

// P11.1: bytes, not characters, are too many.
func TestAllOfLongTexts(t *testing.T) {
	for _, x := range []struct {
		s string
		e api.Errno
		n int
	}{
		{strings.Repeat("a", 8000), api.OK, 8000},
		{strings.Repeat("a", 8001), api.ErrMany, 0},
		{"#" + strings.Repeat("é", 3999) + "a", api.OK, 4001},
		{"#" + strings.Repeat("é", 4000), api.ErrMany, 0},
		{"\xff" + strings.Repeat("A", 8000), api.ErrMany, 0},
		{strings.Repeat("a ", 4000), api.OK, 8000},
	} {
		l, n, e := lex.All(x.s)
		if n != x.n || e != x.e || (len(l) == 0) != (e != api.OK) {
			t.Errorf("of %d bytes: %d tokens, %d, %v", len(x.s), len(l), n, e)
		}
	}
}

// P11.2
func TestShow(t *testing.T) {
	for _, x := range []struct {
		l []api.Tok
		s string
	}{
		{nil, ""},
		{[]api.Tok{word(0, "as"), word(3, "7"), line(8), end(9)}, "as 7\n"},
		{[]api.Tok{line(0), line(0), word(5, "a"), line(1), word(0, "b")}, "\n\na\nb"},
		{[]api.Tok{word(0, "a"), end(0), word(0, "b"), word(0, "c")}, "ab c"},
		{[]api.Tok{word(0, "a"), {Kind: 7, S: "x"}, word(0, "b"), {Kind: -1, S: "x"}}, "ab"},
		{[]api.Tok{word(0, ""), word(0, ""), {Kind: 1, S: "x"}, {Kind: 2, S: "x"}}, " \n"},
		{[]api.Tok{word(9, "A é"), word(-4, "\xff")}, "A é \xff"},
	} {
		old := slices.Clone(x.l)
		if got := lex.Show(x.l); got != x.s {
			t.Errorf("Show(%v) = %q, want %q", x.l, got, x.s)
		}
		if !slices.Equal(x.l, old) {
			t.Errorf("changed to %v", x.l)
		}
	}
}

// P11.3
func TestWhatIsShownIsReadAsTheSame(t *testing.T) {
	for _, s := range []string{"", "as 7 # é\n", "\t a\tbc  d \n\n e", "a#b\nc#d", "#\n#\n", "\n\n\na b c", strings.Repeat("a/1. \n", 1000)} {
		l, _, e := lex.All(s)
		again, _, f := lex.All(lex.Show(l))
		same := func(a, b api.Tok) bool { return a.Kind == b.Kind && a.S == b.S }
		if e != api.OK || f != api.OK || !slices.EqualFunc(l, again, same) {
			t.Errorf("%q is shown as %q", s, lex.Show(l))
		}
	}
}
