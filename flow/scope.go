package flow

import (
	"slices"

	"lowdown/api"
	"lowdown/lattice"
	"lowdown/names"
)

// callees is where the schemes of what function k of m calls are found.
type callees struct {
	m       api.Module
	k       int
	known   []api.Module
	schemes [][]api.Scheme
	own     []api.Scheme
}

// scheme is asked of calls that names.Check found nothing wrong with, so that each means a function.
func (c callees) scheme(call string) api.Scheme {
	which, fun, _ := names.Target(c.m, c.k, call, c.known)
	if which < 0 {
		return c.own[fun]
	}
	return c.schemes[which][fun]
}

// scope is what the names in a function mean, and what the function may do.
type scope struct {
	l       api.Lattice
	low     int
	module  string
	levels  map[string]int // of the module's variables that no Param hides
	names   []string       // of the function's variables, by their numbers
	numbers map[string]int
	called  map[string]api.Scheme
	sets    int // of the function's variables: each will be a constraint
	effects []string
}

func newScope(l api.Lattice, m api.Module, params []string) *scope {
	low, _, _ := lattice.Ends(l)
	s := &scope{l: l, low: low, module: m.Name, levels: map[string]int{}, numbers: map[string]int{}, called: map[string]api.Scheme{}}
	for _, name := range params {
		s.number(name)
	}
	for _, v := range m.Vars {
		if _, hidden := s.numbers[v.Name]; !hidden {
			s.levels[v.Name] = s.level(v.Level)
		}
	}
	return s
}

func (s *scope) number(name string) {
	s.numbers[name] = len(s.names)
	s.names = append(s.names, name)
}

func (s *scope) level(name string) int {
	return slices.Index(s.l.Names, name)
}

// note looks at the whole function ahead of all else: what is asked in it may name variables that stand further on.
func (s *scope) note(f api.Fun, c callees) {
	s.noteCommands(f.Body, c)
	s.noteExpr(f.Result, c)
	slices.Sort(s.effects)
	s.effects = slices.Compact(s.effects)
}

func (s *scope) noteCommands(body []api.Stmt, c callees) {
	for _, command := range body {
		s.noteExpr(command.E, c)
		switch command.Kind {
		case api.SSet:
			s.noteName("w:", command.Name)
			if _, ok := s.levels[command.Name]; !ok {
				s.sets++
			}
		case api.SPrint:
			s.effects = append(s.effects, "p:"+command.Name)
		}
		s.noteCommands(command.A, c)
		s.noteCommands(command.B, c)
	}
}

func (s *scope) noteExpr(e api.Expr, c callees) {
	switch e.Kind {
	case api.EName:
		s.noteName("r:", e.Name)
	case api.ECall:
		s.noteCall(e.Name, c)
	}
	for _, arg := range e.Args {
		s.noteExpr(arg, c)
	}
}

func (s *scope) noteName(deed, name string) {
	if _, ok := s.levels[name]; ok {
		s.effects = append(s.effects, deed+s.module+"."+name)
	} else if _, ok := s.numbers[name]; !ok {
		s.number(name)
	}
}

// noteCall looks for a scheme once, as there may be many calls of it, and many modules known.
func (s *scope) noteCall(call string, c callees) {
	if _, ok := s.called[call]; ok {
		return
	}
	scheme := c.scheme(call)
	s.called[call] = scheme
	s.effects = append(s.effects, scheme.Effects...)
}
