package scheme

import (
	"slices"

	"lowdown/api"
	"lowdown/lattice"
	"lowdown/solve"
)

// solution is a problem with what came out of it: the least labels of its variables, and of each of its sinks the label.
type solution struct {
	l      api.Lattice
	p      api.Problem
	labels []api.Label
	sinks  []api.Label
}

// solved is asked of problems that flow wrote and found small enough, so that solve.Least has no error to tell.
func solved(l api.Lattice, p api.Problem) solution {
	s := solution{l: l, p: p}
	s.labels, _ = solve.Least(l, len(p.Names), p.Cons)
	for _, sink := range p.Sinks {
		s.sinks = append(s.sinks, s.told(sink.From, sink.Label))
	}
	return s
}

// told is what variables and a label tell together.
func (s solution) told(from []int, a api.Label) api.Label {
	for _, v := range from {
		a = solve.Joined(s.l, a, s.labels[v])
	}
	return a
}

func (s solution) diags(fun string) []api.Diag {
	var out []api.Diag
	for i, sink := range s.p.Sinks {
		if !s.l.Leq[s.sinks[i].Level][sink.Level] {
			out = append(out, api.Diag{Code: api.DFlow, Fun: fun, Name: sink.Name})
		}
	}
	return out
}

func (s solution) scheme(f api.Fun) api.Scheme {
	_, top, _ := lattice.Ends(s.l)
	out := api.Scheme{Fun: f.Name, Result: s.told(s.p.From, s.p.Label), Bounds: slices.Repeat([]int{top}, len(f.Params)), PC: top, Effects: s.p.Effects}
	for i, sink := range s.p.Sinks {
		for param := range out.Bounds {
			if s.sinks[i].Mask>>param&1 == 1 {
				out.Bounds[param] = s.met(out.Bounds[param], sink.Level)
			}
		}
		if sink.Effect {
			out.PC = s.met(out.PC, sink.Level)
		}
	}
	return out
}

// met asks lattice.Meet, which looks at the whole lattice, only where the bound has to go down: that is a few times at most, however many sinks there are.
func (s solution) met(bound, level int) int {
	if s.l.Leq[bound][level] {
		return bound
	}
	bound, _ = lattice.Meet(s.l, bound, level)
	return bound
}
