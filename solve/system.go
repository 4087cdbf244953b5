package solve

import "lowdown/api"

// system has, of each variable, its label so far, and as bits the variables that it is at least:
// however long and however many the lists of constraints are, each pair of variables is looked at once a round.
type system struct {
	l       api.Lattice
	labels  []api.Label
	sources []uint64
}

func newSystem(l api.Lattice, n, low int) *system {
	s := &system{l: l, labels: make([]api.Label, n), sources: make([]uint64, n)}
	for v := range s.labels {
		s.labels[v].Level = low
	}
	return s
}

func (s *system) add(c api.Constraint) {
	s.raise(c.To, c.Label)
	for _, v := range c.From {
		s.sources[c.To] |= 1 << v
	}
}

// raise tells whether the label had to go up.
func (s *system) raise(v int, a api.Label) bool {
	if isBelow(s.l, a, s.labels[v]) {
		return false
	}
	s.labels[v] = Joined(s.l, s.labels[v], a)
	return true
}

// settle comes to its end: labels only go up, and there is one above all.
func (s *system) settle() {
	for s.round() {
	}
}

func (s *system) round() bool {
	raised := false
	for to := range s.labels {
		for from, a := range s.labels {
			if s.sources[to]>>from&1 == 1 && s.raise(to, a) {
				raised = true
			}
		}
	}
	return raised
}
