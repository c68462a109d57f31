package console

import (
	"iter"
	"strconv"
	"strings"

	"soundpost/api"
	"soundpost/whole"
)

const (
	space   = " "
	comment = "#"
	procW   = "proc"
	maxData = 64
)

// lines yields the lines of a text, counted from 1 on.
func lines(src string) iter.Seq2[int, string] {
	return func(yield func(int, string) bool) {
		for n := 1; src != ""; n++ {
			text, rest, _ := strings.Cut(src, "\n")
			if !yield(n, text) {
				return
			}
			src = rest
		}
	}
}

// next returns the first word of a text, and what follows it.
func next(text string) (word, rest string) {
	word, rest, _ = strings.Cut(strings.TrimLeft(text, space), space)
	return word, rest
}

func empty(text string) bool {
	word, _ := next(text)
	return word == "" || strings.HasPrefix(word, comment)
}

func words(text string) (l []string) {
	for word, rest := next(text); word != ""; word, rest = next(rest) {
		l = append(l, word)
	}
	return l
}

func number(word string) (n int, ok bool) {
	n, err := strconv.Atoi(word)
	return n, err == nil && strconv.Itoa(n) == word && whole.Within(n, -api.MaxPos, api.MaxPos)
}

func numbers(words []string) (l []int, ok bool) {
	for _, w := range words {
		n, ok := number(w)
		if !ok {
			return nil, false
		}
		l = append(l, n)
	}
	return l, true
}

// parse reads a command.
func parse(text string) (c api.Command, ok bool) {
	word, rest := next(text)
	for kind, s := range specs() {
		if kind == 0 || s.word != word {
			continue
		}
		c.Kind = kind
		for _, field := range []*int{&c.A, &c.B, &c.C}[:s.numbers] {
			word, rest = next(rest)
			if *field, ok = number(word); !ok {
				return api.Command{}, false
			}
		}
		if s.text {
			c.Text, ok = operation(rest)
		} else {
			word, _ = next(rest)
			ok = word == ""
		}
		return c, ok
	}
	return api.Command{}, false
}

// say prints a command, if it can be written: what is printed must be read as the command.
func say(c api.Command) (text string, ok bool) {
	if !whole.Within(c.Kind, api.OpW, api.CrashW) {
		return "", false
	}
	s := specs()[c.Kind]
	l := []string{s.word}
	for _, n := range []int{c.A, c.B, c.C}[:s.numbers] {
		l = append(l, strconv.Itoa(n))
	}
	if s.text {
		l = append(l, c.Text)
	}
	text = strings.Join(l, space)
	read, ok := parse(text)
	return text, ok && read == c && !strings.Contains(text, "\n")
}

// form says of which kind an operation is, and how many numbers it has.
type form struct {
	kind, least, most int
}

func forms() map[string]form {
	return map[string]form{
		"node": {api.NodeO, 2, 2}, "drop": {api.DropO, 1, 1}, "route": {api.RouteO, 4, 4}, "cut": {api.CutO, 3, 3},
		"param": {api.ParamO, 1, 1}, "knot": {api.KnotO, 6, 6}, "unknot": {api.UnknotO, 2, 2}, "bind": {api.BindO, 4, 4},
		"place": {api.PlaceO, 4, 3 + maxData}, "unplace": {api.UnplaceO, 2, 2}, "tempo": {api.TempoO, 4, 4},
	}
}

// operation returns the words of an operation as they are printed.
func operation(text string) (printed string, ok bool) {
	word, rest := next(strings.TrimRight(text, space))
	if word == procW {
		source := strings.TrimLeft(rest, space)
		return procW + space + source, source != ""
	}
	f, ok := forms()[word]
	l := words(rest)
	if _, all := numbers(l); !ok || !all || !whole.Within(len(l), f.least, f.most) {
		return "", false
	}
	return strings.Join(append([]string{word}, l...), space), true
}

// opOf returns the operation of printed words, and the data of a take that it places.
func opOf(text string) (o api.Op, data []int) {
	word, rest := next(text)
	if word == procW {
		return api.Op{Kind: api.ProcO, Source: rest}, nil
	}
	l, _ := numbers(words(rest))
	o.Kind = forms()[word].kind
	fields := []*int{&o.A, &o.B, &o.C, &o.D}
	switch o.Kind {
	case api.KnotO:
		fields = []*int{&o.A, &o.Knot.At, &o.Knot.Value, &o.Knot.Shape, &o.Knot.A, &o.Knot.B}
	case api.PlaceO:
		l, data = l[:3], l[3:]
	}
	for i, n := range l {
		*fields[i] = n
	}
	return o, data
}
