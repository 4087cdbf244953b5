// Package lattice: levels: see doc/01-lattice.md.
package lattice

import (
	"slices"

	"lowdown/api"
)

// Check: P3.
func Check(l api.Lattice) api.Errno {
	if !areNames(l.Names) {
		return api.ErrArg
	}
	if len(l.Names) > api.MaxLevels {
		return api.ErrLarge
	}
	if !isSquare(l.Leq, len(l.Names)) || !isOrder(l.Leq) {
		return api.ErrForm
	}
	if !hasJoins(l.Leq) || !hasJoins(turned(l.Leq)) {
		return api.ErrForm
	}
	return api.OK
}

// Find: P4.
func Find(l api.Lattice, name string) (int, api.Errno) {
	if e := Check(l); e != api.OK {
		return 0, e
	}
	i := slices.Index(l.Names, name)
	if i < 0 {
		return 0, api.ErrNone
	}
	return i, api.OK
}

// Join: P4.
func Join(l api.Lattice, a, b int) (int, api.Errno) {
	if e := checkPair(l, a, b); e != api.OK {
		return 0, e
	}
	return joined(l.Leq, a, b)
}

// Meet: P4.
func Meet(l api.Lattice, a, b int) (int, api.Errno) {
	if e := checkPair(l, a, b); e != api.OK {
		return 0, e
	}
	return joined(turned(l.Leq), a, b)
}

// Ends: P4.
func Ends(l api.Lattice) (int, int, api.Errno) {
	if e := Check(l); e != api.OK {
		return 0, 0, e
	}
	return lowest(l.Leq), lowest(turned(l.Leq)), api.OK
}

// areNames goes through all names, however many, since a bad name is told ahead of too many of them; a map keeps that quick.
func areNames(names []string) bool {
	seen := make(map[string]int)
	for i, name := range names {
		if _, twice := seen[name]; twice || !IsName(name) {
			return false
		}
		seen[name] = i
	}
	return len(names) > 0
}

// IsName tells whether s is a NAME (P3); modules are made of them too, so it is shared.
func IsName(s string) bool {
	if len(s) < 1 || len(s) > api.MaxName {
		return false
	}
	for i := range len(s) {
		if s[i] < 'a' || s[i] > 'z' {
			return false
		}
	}
	return true
}

func isSquare(leq [][]bool, n int) bool {
	if len(leq) != n {
		return false
	}
	for _, row := range leq {
		if len(row) != n {
			return false
		}
	}
	return true
}

func isOrder(leq [][]bool) bool {
	for a := range leq {
		if !leq[a][a] {
			return false
		}
		for b := range leq {
			if leq[a][b] && !fits(leq, a, b) {
				return false
			}
		}
	}
	return true
}

// fits tells, of a that is below b, whether b isn't below a, and a is below all that b is below.
func fits(leq [][]bool, a, b int) bool {
	if a != b && leq[b][a] {
		return false
	}
	for c := range leq {
		if leq[b][c] && !leq[a][c] {
			return false
		}
	}
	return true
}

// turned has below what leq has above, so that a join in it is a meet in leq.
func turned(leq [][]bool) [][]bool {
	up := make([][]bool, len(leq))
	for a := range up {
		up[a] = make([]bool, len(leq))
		for b := range up[a] {
			up[a][b] = leq[b][a]
		}
	}
	return up
}

func hasJoins(leq [][]bool) bool {
	for a := range leq {
		for b := range a {
			if _, e := joined(leq, a, b); e != api.OK {
				return false
			}
		}
	}
	return true
}

func joined(leq [][]bool, a, b int) (int, api.Errno) {
	for c := range leq {
		if leq[a][c] && leq[b][c] && belowBounds(leq, a, b, c) {
			return c, api.OK
		}
	}
	return 0, api.ErrForm
}

// Joined is Join where lattice and levels were looked at already, so that it has no error to tell: labels are joined often, and looking costs more than joining.
func Joined(l api.Lattice, a, b int) int {
	level, _ := joined(l.Leq, a, b)
	return level
}

// belowBounds tells whether c is below all levels that are above both a and b.
func belowBounds(leq [][]bool, a, b, c int) bool {
	for d := range leq {
		if leq[a][d] && leq[b][d] && !leq[c][d] {
			return false
		}
	}
	return true
}

func checkPair(l api.Lattice, a, b int) api.Errno {
	if e := Check(l); e != api.OK {
		return e
	}
	if !IsLevel(l, a) || !IsLevel(l, b) {
		return api.ErrArg
	}
	return api.OK
}

// IsLevel tells whether a is a level's number; l need not be such as Check lets go. Labels and schemes have such numbers too, so it is shared.
func IsLevel(l api.Lattice, a int) bool {
	return a >= 0 && a < len(l.Names)
}

// lowest is told of orders with all meets alone: these have such a level.
func lowest(leq [][]bool) int {
	for a := range leq {
		if !slices.Contains(leq[a], false) {
			return a
		}
	}
	return 0
}
