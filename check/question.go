package check

import (
	"slices"

	"lowdown/api"
	"lowdown/names"
	"lowdown/scheme"
)

// question is what one Answer was asked, of modules that Form lets go, and what was found for it so far:
// a module that several import is looked at once.
type question struct {
	l     api.Lattice
	mods  []api.Module
	first map[string]int
	found map[string]finding
}

// finding is what Answer tells of a module.
type finding struct {
	answer api.Answer
	errno  api.Errno
}

// of is asked of modules' names alone.
func (q question) of(name string) finding {
	f, ok := q.found[name]
	if !ok {
		f = q.find(q.mods[q.first[name]])
		q.found[name] = f
	}
	return f
}

// find comes to its end, though it asks for the imports' answers: one that goes round asks for none.
func (q question) find(m api.Module) finding {
	if slices.Contains(Reach(q.mods, m.Name), m.Name) {
		return finding{answer: api.Answer{Diags: []api.Diag{{Code: api.DCycle, Name: m.Name}}}}
	}
	diags, e := q.below(m)
	if e != api.OK || len(diags) > 0 {
		return finding{answer: api.Answer{Diags: diags}, errno: e}
	}
	known, schemes := q.others(m)
	own, diags, e := scheme.Infer(q.l, m, known, schemes)
	return finding{answer: api.Answer{Schemes: own, Diags: diags}, errno: e}
}

// below looks at all imports, be one no good already: another one's error is told ahead of that.
func (q question) below(m api.Module) ([]api.Diag, api.Errno) {
	var diags []api.Diag
	for _, name := range m.Imports {
		if _, ok := q.first[name]; !ok {
			continue
		}
		f := q.of(name)
		if f.errno != api.OK {
			return nil, f.errno
		}
		if len(f.answer.Diags) > 0 {
			diags = append(diags, api.Diag{Code: api.DBelow, Name: name})
		}
	}
	return names.InOrder(diags), api.OK
}

// others are all modules but m, and their schemes. Those of modules that m doesn't import nobody asks for, but flow.Of wants them to fit.
func (q question) others(m api.Module) ([]api.Module, [][]api.Scheme) {
	var known []api.Module
	var schemes [][]api.Scheme
	for _, other := range q.mods {
		if other.Name == m.Name {
			continue
		}
		known = append(known, other)
		if slices.Contains(m.Imports, other.Name) {
			schemes = append(schemes, q.of(other.Name).answer.Schemes)
		} else {
			schemes = append(schemes, unused(other.Funs))
		}
	}
	return known, schemes
}

func unused(funs []api.Fun) []api.Scheme {
	var out []api.Scheme
	for _, f := range funs {
		out = append(out, api.Scheme{Fun: f.Name, Bounds: make([]int, len(f.Params))})
	}
	return out
}
