package conf

import (
	"slices"

	"ridgeway/api"
	"ridgeway/lex"
	"ridgeway/policy"
	"ridgeway/prefix"
)

// What holds, if no line says otherwise.
const (
	usualHold = 90
	usualCap  = 100
)

// fault is what is wrong with a token, and where that stands.
type fault struct {
	at int
	e  api.Errno
}

// fail gives up: Parse catches it.
func fail(t api.Tok, e api.Errno) { panic(fault{t.At, e}) }

// parser has the tokens that come yet, what was read, and which lines there were of those that may be there once.
type parser struct {
	left []api.Tok
	c    api.Conf
	seen map[string]bool
}

// Parse is a text's configuration.
func Parse(s string) (c api.Conf, place int, e api.Errno) {
	tokens, place, e := lex.All(s)
	if e != api.OK {
		return api.Conf{}, place, e
	}
	defer func() {
		if f, ok := recover().(fault); ok {
			c, place, e = api.Conf{}, f.at, f.e
		}
	}()
	p := parser{left: tokens, c: api.Conf{Hold: usualHold, Cap: usualCap}, seen: map[string]bool{}}
	p.all()
	return p.c, place, api.OK
}

// lines tell by its first word what a line does; that word is handed to it.
func lines() map[string]func(p *parser, t api.Tok) {
	return map[string]func(p *parser, t api.Tok){
		"as":   func(p *parser, t api.Tok) { p.once(t); p.c.As = p.number(saneNumber) },
		"id":   func(p *parser, t api.Tok) { p.once(t); p.c.Id = p.address() },
		"hold": func(p *parser, t api.Tok) { p.once(t); p.c.Hold = p.number(saneHold) },
		"cap":  func(p *parser, t api.Tok) { p.once(t); p.c.Cap = p.number(saneCap) },
		"own":  (*parser).own,
		"peer": (*parser).peer,
		"in":   (*parser).in,
		"out":  (*parser).out,
	}
}

// all reads line by line.
func (p *parser) all() {
	does := lines()
	t := p.next()
	for ; t.Kind != lex.End; t = p.next() {
		if t.Kind == lex.Line {
			continue
		}
		if t.S != "as" && !p.seen["as"] {
			fail(t, api.ErrNone)
		}
		do, ok := does[t.S]
		if !ok {
			fail(t, api.ErrWord)
		}
		do(p, t)
		if behind := p.left[0]; behind.Kind == lex.Word {
			fail(behind, api.ErrForm)
		}
	}
	if !p.seen["as"] || !p.seen["id"] {
		fail(t, api.ErrNone)
	}
}

// next takes a token; none is taken behind the End.
func (p *parser) next() api.Tok {
	t := p.left[0]
	p.left = p.left[1:]
	return t
}

// once fails at a line that was there already.
func (p *parser) once(t api.Tok) {
	if p.seen[t.S] {
		fail(t, api.ErrUsed)
	}
	p.seen[t.S] = true
}

func (p *parser) own(t api.Tok) {
	if len(p.c.Own) == api.MaxOwn {
		fail(t, api.ErrMany)
	}
	t = p.word()
	x := read(t)
	if slices.Contains(p.c.Own, x) {
		fail(t, api.ErrUsed)
	}
	p.c.Own = append(p.c.Own, x)
}

func (p *parser) peer(t api.Tok) {
	if len(p.c.Sides) == api.MaxPeers {
		fail(t, api.ErrMany)
	}
	t = p.left[0]
	s := api.Side{As: p.number(saneNumber)}
	if taken(p.c.As, p.c.Sides, s.As) {
		fail(t, api.ErrUsed)
	}
	s.Rel = api.Customer + p.choice(classes()[api.Customer:])
	p.c.Sides = append(p.c.Sides, s)
}

func (p *parser) in(t api.Tok) {
	s := p.last(t)
	s.In = p.rule(t, s.In, true)
}

func (p *parser) out(t api.Tok) {
	s := p.last(t)
	s.Out = p.rule(t, s.Out, false)
}

// last is the last side ahead.
func (p *parser) last(t api.Tok) *api.Side {
	if len(p.c.Sides) == 0 {
		fail(t, api.ErrNone)
	}
	return &p.c.Sides[len(p.c.Sides)-1]
}

// rule reads one, and puts it behind others. A number may be, if a rule that has nothing else may be with it.
func (p *parser) rule(t api.Tok, l []api.Rule, in bool) []api.Rule {
	if len(l) == api.MaxRules {
		fail(t, api.ErrMany)
	}
	r := api.Rule{Match: p.choice(matches(in))}
	switch r.Match {
	case policy.Within:
		r.X = read(p.word())
	case policy.Has, policy.Longer:
		r.V = p.number(func(n int) bool { return policy.Sane(api.Rule{Match: r.Match, V: n}, in) })
	case policy.From:
		r.V = p.choice(classes())
	}
	r.Act = p.choice(acts(in))
	if r.Act == policy.Pref || r.Act == policy.Prepend {
		r.N = p.number(func(n int) bool { return policy.Sane(api.Rule{Act: r.Act, N: n}, in) })
	}
	return append(l, r)
}

// word takes a token that is a word.
func (p *parser) word() api.Tok {
	t := p.next()
	if t.Kind != lex.Word {
		fail(t, api.ErrShort)
	}
	return t
}

// number takes one that may be.
func (p *parser) number(may func(n int) bool) int {
	t := p.word()
	n, ok := digits(t.S)
	if !ok {
		fail(t, api.ErrForm)
	}
	if !may(n) {
		fail(t, api.ErrRange)
	}
	return n
}

// digits is the number that a word is; one that is greater than all that may be is told as one more than these.
func digits(s string) (int, bool) {
	n := 0
	for _, r := range s {
		if r < '0' || r > '9' {
			return 0, false
		}
		n = min(10*n+int(r-'0'), api.MaxNum+1)
	}
	return n, len(s) == 1 || s[0] != '0'
}

// address takes one that is not 0.
func (p *parser) address() int {
	t := p.word()
	t.S += host
	a := read(t).A
	if a == 0 {
		fail(t, api.ErrRange)
	}
	return a
}

// read is the prefix that a word is.
func read(t api.Tok) api.Prefix {
	x, ok := prefix.Read(t.S)
	if !ok {
		fail(t, api.ErrForm)
	}
	return x
}

// choice takes one out of some words, and tells which it is.
func (p *parser) choice(words []string) int {
	t := p.word()
	i := slices.Index(words, t.S)
	if i < 0 {
		fail(t, api.ErrWord)
	}
	return i
}
