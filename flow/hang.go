package flow

import (
	"slices"

	"lowdown/api"
	"lowdown/lattice"
)

// hang is what something hangs on: variables, rising, each once, and a level.
// It needs no bits: these stand in the constraints of the Params alone.
type hang struct {
	from  []int
	level int
}

func (h hang) label() api.Label {
	return api.Label{Level: h.level}
}

// with has a list of its own, whatever a and b have.
func (s *scope) with(a, b hang) hang {
	from := slices.Concat(a.from, b.from)
	slices.Sort(from)
	return hang{from: slices.Compact(from), level: lattice.Joined(s.l, a.level, b.level)}
}

// hangsOn: P16.
func (s *scope) hangsOn(e api.Expr) hang {
	switch e.Kind {
	case api.EName:
		return s.nameHangsOn(e.Name)
	case api.EOp:
		return s.with(s.hangsOn(e.Args[0]), s.hangsOn(e.Args[1]))
	case api.ECall:
		return s.callHangsOn(e)
	}
	return hang{level: s.low}
}

func (s *scope) nameHangsOn(name string) hang {
	if level, ok := s.levels[name]; ok {
		return hang{level: level}
	}
	return hang{from: []int{s.numbers[name]}, level: s.low}
}

func (s *scope) callHangsOn(e api.Expr) hang {
	result := s.called[e.Name].Result
	h := hang{level: result.Level}
	for i, arg := range e.Args {
		if result.Mask>>i&1 == 1 {
			h = s.with(h, s.hangsOn(arg))
		}
	}
	return h
}
