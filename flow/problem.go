package flow

import (
	"slices"

	"lowdown/api"
)

// builder goes through a function, and writes down what it finds.
type builder struct {
	*scope
	cons  []api.Constraint
	sinks []api.Sink
}

// problem: P16.
func problem(s *scope, f api.Fun) api.Problem {
	b := &builder{scope: s}
	for i := range f.Params {
		b.cons = append(b.cons, api.Constraint{To: i, Label: api.Label{Mask: 1 << i, Level: s.low}})
	}
	nowhere := hang{level: s.low}
	b.commands(f.Body, nowhere)
	b.calls(f.Result, nowhere)
	result := s.hangsOn(f.Result)
	return api.Problem{Names: s.names, Cons: b.cons, Sinks: b.sinks, From: result.from, Label: result.label(), Effects: s.effects}
}

func (b *builder) commands(body []api.Stmt, pc hang) {
	for _, c := range body {
		b.command(c, pc)
	}
}

func (b *builder) command(c api.Stmt, pc hang) {
	inside := b.with(pc, b.hangsOn(c.E))
	if c.Kind == api.SWhile {
		// What a loop asks is asked again only if it told so itself: who sees that it is, learns what it told.
		b.calls(c.E, inside)
	} else {
		b.calls(c.E, pc)
	}
	switch c.Kind {
	case api.SSet:
		b.set(c.Name, inside)
	case api.SPrint:
		b.sink(inside, b.level(c.Name), c.Name, true)
	default:
		b.commands(c.A, inside)
		b.commands(c.B, inside)
	}
}

func (b *builder) set(name string, h hang) {
	if level, ok := b.levels[name]; ok {
		b.sink(h, level, name, true)
		return
	}
	b.cons = append(b.cons, api.Constraint{To: b.numbers[name], From: slices.Clone(h.from), Label: h.label()})
}

// calls writes down the sinks of all calls in e.
func (b *builder) calls(e api.Expr, pc hang) {
	for _, arg := range e.Args {
		b.calls(arg, pc)
	}
	if e.Kind != api.ECall {
		return
	}
	scheme := b.called[e.Name]
	for i, arg := range e.Args {
		b.sink(b.hangsOn(arg), scheme.Bounds[i], e.Name, false)
	}
	b.sink(pc, scheme.PC, e.Name, true)
}

// sink takes a copy: what is known of a place goes into many sinks, and no two lists of an answer may share memory.
func (b *builder) sink(h hang, level int, name string, effect bool) {
	b.sinks = append(b.sinks, api.Sink{From: slices.Clone(h.from), Label: h.label(), Level: level, Name: name, Effect: effect})
}
