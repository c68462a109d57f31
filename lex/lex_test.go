package lex

import (
	"strings"
	"testing"

	"soundpost/api"
)

func TestLex(t *testing.T) {
	l, at, e := Lex("sum 30;\t// rest ; 07\r\na_1/ /{")
	want := []api.Token{
		{Kind: api.NameT, Text: "sum"}, {Kind: api.NumberT, N: 30, At: 4}, {Kind: api.SignT, Text: ";", At: 6},
		{Kind: api.NameT, Text: "a_1", At: 22}, {Kind: api.SignT, Text: "/", At: 25}, {Kind: api.SignT, Text: "/", At: 27}, {Kind: api.SignT, Text: "{", At: 28},
	}
	if e != api.OK || at != 0 || !Same(l, want) {
		t.Fatal(l, at, e)
	}
	for i := range l {
		if l[i].At != want[i].At {
			t.Error(i, l[i].At)
		}
	}
	for i, x := range []struct {
		src string
		at  int
		e   api.Errno
	}{
		{"", 0, api.OK}, {"007", 0, api.ErrText}, {"1099511627776", 0, api.OK}, {"1099511627777", 0, api.ErrText},
		{"a // b", 0, api.OK}, {"a $", 2, api.ErrText}, {"0", 0, api.OK}, {"00", 0, api.ErrText}, {" _a", 1, api.ErrText},
		{strings.Repeat("a", 32), 0, api.OK}, {" " + strings.Repeat("a", 33), 1, api.ErrText},
		{"99999999999999999999999", 0, api.ErrText}, {strings.Repeat(" ", 65536), 0, api.OK}, {strings.Repeat(" ", 65537), 0, api.ErrLimit},
		{"a\x00", 1, api.ErrText}, {"a \xff", 2, api.ErrText}, {"1a", 0, api.OK}, {"? 1", 0, api.ErrText},
	} {
		if l, at, e := Lex(x.src); e != x.e || at != x.at || e != api.OK && l != nil {
			t.Error(i, l, at, e)
		}
	}
	if l, _, _ := Lex("12ab"); len(l) != 2 || l[1].At != 2 {
		t.Error(l)
	}
}

func TestText(t *testing.T) {
	src := "a 0 ; , = : . < > ! + - * / 1099511627776 { } ( )"
	l, _, _ := Lex(src)
	if s, e := Text(l); e != api.OK || s != src {
		t.Error(s, e)
	}
	for i, x := range []api.Token{
		{}, {Kind: 4}, {Kind: api.NameT}, {Kind: api.NameT, Text: "a", N: 1}, {Kind: api.NameT, Text: "1"}, {Kind: api.NumberT, N: -1},
		{Kind: api.NumberT, N: 1<<40 + 1}, {Kind: api.NumberT, Text: "1", N: 1}, {Kind: api.SignT, Text: "&"}, {Kind: api.SignT, Text: "{}"},
		{Kind: api.SignT}, {Kind: api.SignT, Text: "{", N: 1}, {Kind: api.NameT, Text: strings.Repeat("a", 33)},
	} {
		if s, e := Text(append(l, x)); e != api.ErrText || s != "" {
			t.Error(i, s, e)
		}
	}
	if s, e := Text([]api.Token{{Kind: api.NameT, Text: "x", At: -7}}); s != "x" || e != api.OK {
		t.Error(s, e)
	}
}

func TestSame(t *testing.T) {
	a := []api.Token{{Kind: 9, Text: "?", N: 1, At: 3}}
	if !Same(a, []api.Token{{Kind: 9, Text: "?", N: 1, At: 4}}) || !Same(nil, []api.Token{}) {
		t.Error("equal")
	}
	for i, b := range [][]api.Token{nil, {{Kind: 8, Text: "?", N: 1}}, {{Kind: 9, Text: "!", N: 1}}, {{Kind: 9, Text: "?"}}, append(a, a[0])} {
		if Same(a, b) {
			t.Error(i)
		}
	}
}

func TestName(t *testing.T) {
	for s, want := range map[string]bool{"B_12": true, "AZaz09": true, "A": true, "Z": true, "a": true, "@a": false, "[": false, "`": false, "{": false, "a/": false, "a:": false, "_12": false, "": false, "z": true, "a-b": false, "1a": false, "aé": false} {
		if Name(s) != want {
			t.Error(s)
		}
	}
	if !Name(strings.Repeat("Z", 32)) || Name(strings.Repeat("Z", 33)) {
		t.Error("length")
	}
}

func TestConsequences(t *testing.T) {
	a, b := "x = 3 // c", "/ 4 y_"
	l, _, _ := Lex(a)
	m, _, _ := Lex(b)
	both, _, e := Lex(a + "\n" + b)
	if e != api.OK || !Same(both, append(l, m...)) {
		t.Error(both)
	}
	last := -1
	for _, x := range both {
		if x.At <= last || x.Kind != api.NumberT && !strings.HasPrefix((a + "\n" + b)[x.At:], x.Text) {
			t.Error(x)
		}
		last = x.At
	}
}
