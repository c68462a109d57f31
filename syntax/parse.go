package syntax

import (
	"soundpost/api"
	"soundpost/words"
)

// wrong is the panic of a parser at the first token that cannot follow.
type wrong struct{ at int }

// parser holds the tokens that remain, and where the source ends.
type parser struct {
	tokens []api.Token
	end    int
}

func (p *parser) fail() {
	if len(p.tokens) == 0 {
		panic(wrong{p.end})
	}
	panic(wrong{p.tokens[0].At})
}

// peek returns the next token, the zero token at the end.
func (p *parser) peek() (t api.Token) {
	if len(p.tokens) > 0 {
		t = p.tokens[0]
	}
	return t
}

func (p *parser) next() api.Token {
	t := p.peek()
	p.tokens = p.tokens[1:]
	return t
}

// is reports whether the next token is one of some words and signs.
func (p *parser) is(texts ...string) bool {
	t := p.peek()
	for _, x := range texts {
		if t.Text == x && t.Kind != 0 {
			return true
		}
	}
	return false
}

// expect passes over words and signs, which must follow.
func (p *parser) expect(texts ...string) {
	for _, x := range texts {
		if !p.is(x) {
			p.fail()
		}
		p.next()
	}
}

// accept passes over a word or a sign if it follows.
func (p *parser) accept(text string) bool {
	found := p.is(text)
	if found {
		p.next()
	}
	return found
}

func (p *parser) name() string {
	if t := p.peek(); t.Kind != api.NameT || words.Is(t.Text) {
		p.fail()
	}
	return p.next().Text
}

func (p *parser) number(least int) int {
	if t := p.peek(); t.Kind != api.NumberT || t.N < least || t.N > maxNumber {
		p.fail()
	}
	return p.next().N
}

func (p *parser) int() int {
	if p.accept("-") {
		return -p.number(0)
	}
	return p.number(0)
}

// list reads items that are separated by commas.
func list[T any](p *parser, item func() T) []T {
	l := []T{item()}
	for p.accept(",") {
		l = append(l, item())
	}
	return l
}

func declarations() map[string]func(*parser, *api.Proc) {
	return map[string]func(*parser, *api.Proc){
		"param": (*parser).param, "state": (*parser).state, "line": (*parser).line, "table": (*parser).table,
	}
}

func statements() map[string]func(*parser) api.Stmt {
	return map[string]func(*parser) api.Stmt{
		"let": (*parser).let, "set": (*parser).set, "push": (*parser).push, "out": (*parser).out,
	}
}

func (p *parser) processor() api.Proc {
	p.expect("processor")
	x := api.Proc{Name: p.name()}
	p.expect("latency")
	x.Latency = p.number(0)
	p.expect("tail")
	if p.accept("forever") {
		x.Tail = -1
	} else {
		x.Tail = p.number(0)
	}
	p.expect("{")
	for decls := declarations(); p.is("param", "state", "line", "table"); {
		decls[p.next().Text](p, &x)
		p.expect(";")
	}
	for stmts := statements(); p.is("let", "set", "push", "out"); {
		x.Stmts = append(x.Stmts, stmts[p.next().Text](p))
		p.expect(";")
	}
	p.expect("}")
	return x
}

func (p *parser) bounds() (lo, hi int) {
	p.expect("from")
	lo = p.int()
	p.expect("to")
	return lo, p.int()
}

func (p *parser) bound() api.Bound {
	b := api.Bound{Name: p.name()}
	b.Lo, b.Hi = p.bounds()
	return b
}

func (p *parser) param(x *api.Proc) { x.Params = append(x.Params, p.bound()) }

func (p *parser) state(x *api.Proc) { x.States = append(x.States, p.bound()) }

func (p *parser) line(x *api.Proc) {
	l := api.Line{Name: p.name(), Size: p.number(0)}
	l.Lo, l.Hi = p.bounds()
	x.Lines = append(x.Lines, l)
}

func (p *parser) table(x *api.Proc) {
	t := api.Table{Name: p.name()}
	p.expect("=")
	t.Values = list(p, p.int)
	x.Tables = append(x.Tables, t)
}

func (p *parser) let() api.Stmt { return p.named(api.LetT) }

func (p *parser) set() api.Stmt { return p.named(api.SetT) }

func (p *parser) push() api.Stmt { return p.named(api.PushT) }

func (p *parser) out() api.Stmt { return api.Stmt{Kind: api.OutT, X: p.expr(0)} }

func (p *parser) named(kind int) api.Stmt {
	s := api.Stmt{Kind: kind, Name: p.name()}
	p.expect("=")
	s.X = p.expr(0)
	return s
}

// expr reads an expression that lies in as many units as depth says.
func (p *parser) expr(depth int) api.Expr {
	if !p.accept("if") {
		return p.sum(depth)
	}
	l := make([]api.Expr, 4)
	l[0] = p.sum(depth)
	p.expect("<")
	l[1] = p.sum(depth)
	p.expect("then")
	l[2] = p.expr(depth)
	p.expect("else")
	l[3] = p.expr(depth)
	return api.Expr{Kind: api.IfE, L: l}
}

func (p *parser) sum(depth int) api.Expr {
	x := p.product(depth)
	for p.is("+", "-") {
		kind := api.AddE
		if p.next().Text == "-" {
			kind = api.SubE
		}
		x = api.Expr{Kind: kind, L: []api.Expr{x, p.product(depth)}}
	}
	return x
}

func (p *parser) product(depth int) api.Expr {
	x := p.unit(depth)
	for p.is("*", "/") {
		if p.next().Text == "*" {
			x = api.Expr{Kind: api.MulE, L: []api.Expr{x, p.unit(depth)}}
		} else {
			x = api.Expr{Kind: api.DivE, N: p.number(1), L: []api.Expr{x}}
		}
	}
	return x
}

func (p *parser) unit(depth int) api.Expr {
	t := p.peek()
	switch {
	case t.Kind == api.NumberT:
		return api.Expr{Kind: api.NumE, N: p.number(0)}
	case t.Kind == api.NameT && !words.Is(t.Text):
		return api.Expr{Kind: api.NameE, Name: p.name()}
	case depth == deepest:
		p.fail()
	case p.accept("-"):
		return api.Expr{Kind: api.NegE, L: []api.Expr{p.unit(depth + 1)}}
	case p.accept("("):
		x := p.expr(depth + 1)
		p.expect(")")
		return x
	}
	f, ok := called(t.Text)
	if !ok {
		p.fail()
	}
	p.next()
	return p.call(f, depth)
}

// call reads the parts of a function.
func (p *parser) call(f function, depth int) api.Expr {
	x := api.Expr{Kind: f.kind}
	p.expect("(")
	if f.named {
		x.Name = p.name()
		p.expect(",")
	}
	for i := range f.parts {
		if i > 0 {
			p.expect(",")
		}
		x.L = append(x.L, p.expr(depth+1))
	}
	p.expect(")")
	return x
}
