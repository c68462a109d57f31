package syntax

import (
	"soundpost/api"
	"soundpost/whole"
	"soundpost/words"
)

// function is a function of the language: named, if its first part is a name.
type function struct {
	kind  int
	word  string
	named bool
	parts int
}

func functions() []function {
	return []function{
		{api.InE, "in", false, 1}, {api.SideE, "side", false, 1}, {api.TapE, "tap", true, 1}, {api.LookE, "look", true, 1},
		{api.SatE, "sat", false, 1}, {api.MinE, "min", false, 2}, {api.MaxE, "max", false, 2}, {api.AbsE, "abs", false, 1},
	}
}

// called returns the function of a word.
func called(word string) (function, bool) {
	for _, f := range functions() {
		if f.word == word {
			return f, true
		}
	}
	return function{}, false
}

// calling returns the function of a kind.
func calling(kind int) (function, bool) {
	for _, f := range functions() {
		if f.kind == kind {
			return f, true
		}
	}
	return function{}, false
}

// unprintable is the panic of a printer.
type unprintable struct{}

type printer struct{ tokens []api.Token }

// must ends the work unless something holds that all syntax trees have.
func must(ok bool) {
	if !ok {
		panic(unprintable{})
	}
}

// put prints words and names.
func (p *printer) put(texts ...string) {
	for _, s := range texts {
		p.tokens = append(p.tokens, api.Token{Kind: api.NameT, Text: s})
	}
}

// sign prints signs.
func (p *printer) sign(texts ...string) {
	for _, s := range texts {
		p.tokens = append(p.tokens, api.Token{Kind: api.SignT, Text: s})
	}
}

func (p *printer) name(s string) {
	must(words.Name(s))
	p.put(s)
}

func (p *printer) number(n, least int) {
	must(whole.Within(n, least, maxNumber))
	p.tokens = append(p.tokens, api.Token{Kind: api.NumberT, N: n})
}

func (p *printer) int(n int) {
	must(whole.Within(n, -maxNumber, maxNumber))
	if n < 0 {
		p.sign("-")
	}
	p.number(max(n, -n), 0)
}

func (p *printer) bounds(lo, hi int) {
	p.put("from")
	p.int(lo)
	p.put("to")
	p.int(hi)
	p.sign(";")
}

func (p *printer) processor(x api.Proc) {
	p.put("processor")
	p.name(x.Name)
	p.put("latency")
	p.number(x.Latency, 0)
	p.put("tail")
	if x.Tail == -1 {
		p.put("forever")
	} else {
		p.number(x.Tail, 0)
	}
	p.sign("{")
	p.declarations(x)
	for _, s := range x.Stmts {
		p.statement(s)
	}
	p.sign("}")
}

func (p *printer) declarations(x api.Proc) {
	for _, b := range x.Params {
		p.put("param")
		p.name(b.Name)
		p.bounds(b.Lo, b.Hi)
	}
	for _, b := range x.States {
		p.put("state")
		p.name(b.Name)
		p.bounds(b.Lo, b.Hi)
	}
	for _, l := range x.Lines {
		p.put("line")
		p.name(l.Name)
		p.number(l.Size, 0)
		p.bounds(l.Lo, l.Hi)
	}
	for _, t := range x.Tables {
		must(len(t.Values) > 0)
		p.put("table")
		p.name(t.Name)
		for i, v := range t.Values {
			if i == 0 {
				p.sign("=")
			} else {
				p.sign(",")
			}
			p.int(v)
		}
		p.sign(";")
	}
}

func (p *printer) statement(s api.Stmt) {
	switch s.Kind {
	case api.LetT:
		p.put("let")
	case api.SetT:
		p.put("set")
	case api.PushT:
		p.put("push")
	case api.OutT:
		p.put("out")
	default:
		must(false)
	}
	if s.Kind == api.OutT {
		must(s.Name == "")
	} else {
		p.name(s.Name)
		p.sign("=")
	}
	p.expr(s.X, exprL, 0)
	p.sign(";")
}

// The levels of expressions in the grammar, the loosest one first.
const (
	exprL = iota
	sumL
	productL
	unitL
)

// level returns the level of expressions of a kind.
func level(kind int) int {
	switch kind {
	case api.IfE:
		return exprL
	case api.AddE, api.SubE:
		return sumL
	case api.MulE, api.DivE:
		return productL
	}
	return unitL
}

// parts returns how many parts an expression must have, and whether it has a name.
func parts(kind int) (n int, named, ok bool) {
	switch kind {
	case api.NumE:
		return 0, false, true
	case api.NameE, api.ParamE, api.StateE, api.LetE:
		return 0, true, true
	case api.NegE, api.DivE:
		return 1, false, true
	case api.AddE, api.SubE, api.MulE:
		return 2, false, true
	case api.IfE:
		return 4, false, true
	}
	f, ok := calling(kind)
	return f.parts, f.named, ok
}

// expr prints an expression at a place for expressions of a level, which lies in as many units as depth says.
func (p *printer) expr(x api.Expr, at, depth int) {
	n, named, ok := parts(x.Kind)
	must(ok && len(x.L) == n && (named || x.Name == "") && (x.N == 0 || x.Kind == api.NumE || x.Kind == api.DivE))
	own := level(x.Kind)
	if own < at {
		must(depth < deepest)
		p.sign("(")
		p.expr(x, exprL, depth+1)
		p.sign(")")
		return
	}
	switch own {
	case exprL:
		p.choice(x, depth)
	case unitL:
		p.unit(x, depth)
	default:
		p.binary(x, own, depth)
	}
}

func (p *printer) choice(x api.Expr, depth int) {
	p.put("if")
	p.expr(x.L[0], sumL, depth)
	p.sign("<")
	p.expr(x.L[1], sumL, depth)
	p.put("then")
	p.expr(x.L[2], exprL, depth)
	p.put("else")
	p.expr(x.L[3], exprL, depth)
}

func (p *printer) binary(x api.Expr, own, depth int) {
	p.expr(x.L[0], own, depth)
	switch x.Kind {
	case api.AddE:
		p.sign("+")
	case api.SubE:
		p.sign("-")
	case api.MulE:
		p.sign("*")
	case api.DivE:
		p.sign("/")
		p.number(x.N, 1)
		return
	}
	p.expr(x.L[1], own+1, depth)
}

func (p *printer) unit(x api.Expr, depth int) {
	switch x.Kind {
	case api.NumE:
		p.number(x.N, 0)
		return
	case api.NameE, api.ParamE, api.StateE, api.LetE:
		p.name(x.Name)
		return
	}
	must(depth < deepest)
	if x.Kind == api.NegE {
		p.sign("-")
		p.expr(x.L[0], unitL, depth+1)
		return
	}
	f, _ := calling(x.Kind)
	p.put(f.word)
	p.sign("(")
	if f.named {
		p.name(x.Name)
		p.sign(",")
	}
	for i, y := range x.L {
		if i > 0 {
			p.sign(",")
		}
		p.expr(y, exprL, depth+1)
	}
	p.sign(")")
}
