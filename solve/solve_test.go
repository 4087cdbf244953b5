package solve

import (
	"math"
	"math/rand"
	"reflect"
	"slices"
	"strings"
	"testing"

	"lowdown/api"
	"lowdown/lattice"
)

// order makes a lattice of names parted by blanks; pairs, such as "a<b", are all that is below another level.
func order(names, pairs string) api.Lattice {
	l := api.Lattice{Names: strings.Fields(names)}
	for i := range l.Names {
		row := make([]bool, len(l.Names))
		row[i] = true
		l.Leq = append(l.Leq, row)
	}
	for _, p := range strings.Fields(pairs) {
		a, b, _ := strings.Cut(p, "<")
		l.Leq[slices.Index(l.Names, a)][slices.Index(l.Names, b)] = true
	}
	return l
}

// chain is of names, each below all behind it.
func chain(names string) api.Lattice {
	l := order(names, "")
	for a := range l.Leq {
		for b := a; b < len(l.Leq); b++ {
			l.Leq[a][b] = true
		}
	}
	return l
}

// diamond: high 0, left 1, low 2, right 3: the level below all isn't the first one.
func diamond() api.Lattice {
	return order("high left low right", "low<left low<right low<high left<high right<high")
}

func lattices() []api.Lattice {
	return []api.Lattice{
		chain("a"),
		chain("low high"),
		order("high low", "low<high"),
		diamond(),
		order("o a b c i", "o<a o<b o<c o<i a<b a<i b<i c<i"),
		order("o a b c i", "o<a o<b o<c o<i a<i b<i c<i"),
		chain("a b c d e f"),
		order("i d c b a o", "o<a o<b o<c o<d o<i a<c a<d a<i b<d b<i c<i d<i"),
	}
}

func wrongLattices() []api.Lattice {
	return []api.Lattice{
		{},
		{Names: []string{"a", "a"}, Leq: chain("a b").Leq},
		{Names: []string{"a", "b"}, Leq: [][]bool{nil, nil}},
		{Names: []string{"a", "b"}, Leq: nil},
		chain("a b c d e f g"),
		order("o a b c d i", "o<a o<b o<c o<d o<i a<c a<d a<i b<c b<d b<i c<i d<i"),
	}
}

// wrongLabels: of diamond, and of each lattice that has no more levels.
func wrongLabels() []api.Label {
	var out []api.Label
	for _, mask := range []int{-1, 16, 17, 31, 32, -16, math.MinInt, math.MaxInt} {
		out = append(out, api.Label{Mask: mask})
	}
	for _, level := range []int{-1, 4, 5, 6, 64, math.MinInt, math.MaxInt} {
		out = append(out, api.Label{Level: level})
	}
	return append(out, api.Label{Mask: 16, Level: 4}, api.Label{Mask: 15, Level: 4}, api.Label{Mask: 16, Level: 3})
}

func labels(l api.Lattice) []api.Label {
	var out []api.Label
	for mask := range 16 {
		for level := range l.Names {
			out = append(out, api.Label{Mask: mask, Level: level})
		}
	}
	return out
}

// under is Below, by P14's words, bit by bit.
func under(l api.Lattice, a, b api.Label) bool {
	for bit := range 4 {
		if a.Mask>>bit%2 == 1 && b.Mask>>bit%2 == 0 {
			return false
		}
	}
	return l.Leq[a.Level][b.Level]
}

func TestLatticesAreSuch(t *testing.T) {
	for _, l := range lattices() {
		if e := lattice.Check(l); e != api.OK {
			t.Error(l.Names, e)
		}
	}
	for _, l := range wrongLattices() {
		if e := lattice.Check(l); e == api.OK {
			t.Error(l.Names)
		}
	}
}

func TestJoin(t *testing.T) {
	l := diamond()
	for _, x := range [][3]api.Label{
		{{Mask: 0, Level: 2}, {Mask: 0, Level: 2}, {Mask: 0, Level: 2}},
		{{Mask: 5, Level: 1}, {Mask: 3, Level: 3}, {Mask: 7, Level: 0}},
		{{Mask: 15, Level: 2}, {Mask: 0, Level: 1}, {Mask: 15, Level: 1}},
		{{Mask: 8, Level: 3}, {Mask: 1, Level: 2}, {Mask: 9, Level: 3}},
		{{Mask: 6, Level: 0}, {Mask: 6, Level: 2}, {Mask: 6, Level: 0}},
	} {
		for _, p := range [][2]api.Label{{x[0], x[1]}, {x[1], x[0]}} {
			if got, e := Join(l, p[0], p[1]); got != x[2] || e != api.OK {
				t.Error(p, got, e, x[2])
			}
		}
	}
}

// TestJoinOfAll: all bits of both and no other one, and lattice.Join of both levels.
func TestJoinOfAll(t *testing.T) {
	for _, l := range lattices() {
		all := labels(l)
		for _, a := range all {
			for _, b := range all {
				level, _ := lattice.Join(l, a.Level, b.Level)
				want := api.Label{Mask: a.Mask + b.Mask - a.Mask&b.Mask, Level: level}
				if got, e := Join(l, a, b); got != want || e != api.OK {
					t.Fatal(l.Names, a, b, got, e, want)
				}
			}
		}
	}
}

func TestBelow(t *testing.T) {
	l := diamond()
	for _, x := range []struct {
		a, b api.Label
		want bool
	}{
		{api.Label{Mask: 0, Level: 2}, api.Label{Mask: 0, Level: 2}, true},
		{api.Label{Mask: 0, Level: 2}, api.Label{Mask: 15, Level: 0}, true},
		{api.Label{Mask: 15, Level: 0}, api.Label{Mask: 0, Level: 2}, false},
		{api.Label{Mask: 4, Level: 2}, api.Label{Mask: 3, Level: 0}, false},
		{api.Label{Mask: 4, Level: 2}, api.Label{Mask: 12, Level: 3}, true},
		{api.Label{Mask: 1, Level: 1}, api.Label{Mask: 1, Level: 3}, false},
		{api.Label{Mask: 1, Level: 3}, api.Label{Mask: 1, Level: 1}, false},
		{api.Label{Mask: 1, Level: 0}, api.Label{Mask: 15, Level: 2}, false},
		{api.Label{Mask: 2, Level: 1}, api.Label{Mask: 1, Level: 1}, false},
	} {
		if is, e := Below(l, x.a, x.b); is != x.want || e != api.OK {
			t.Error(x, is, e)
		}
	}
}

func TestBelowOfAll(t *testing.T) {
	for _, l := range lattices() {
		all := labels(l)
		for _, a := range all {
			for _, b := range all {
				if is, e := Below(l, a, b); is != under(l, a, b) || e != api.OK {
					t.Fatal(l.Names, a, b, is, e)
				}
			}
		}
	}
}

func expectPair(t *testing.T, l api.Lattice, a, b api.Label, want api.Errno) {
	t.Helper()
	if got, e := Join(l, a, b); got != (api.Label{}) || e != want {
		t.Error("Join", l.Names, a, b, got, e, want)
	}
	if is, e := Below(l, a, b); is || e != want {
		t.Error("Below", l.Names, a, b, is, e, want)
	}
}

func TestWrongLabels(t *testing.T) {
	l := diamond()
	good := api.Label{Mask: 15, Level: 3}
	for _, bad := range wrongLabels() {
		expectPair(t, l, bad, good, api.ErrArg)
		expectPair(t, l, good, bad, api.ErrArg)
		expectPair(t, l, bad, bad, api.ErrArg)
		expectLeast(t, l, 2, []api.Constraint{{To: 1, Label: bad}}, nil, api.ErrArg)
		expectLeast(t, l, 2, []api.Constraint{{To: 0, Label: good}, {To: 1, From: []int{0}, Label: bad}}, nil, api.ErrArg)
	}
	one := chain("a")
	expectPair(t, one, api.Label{Level: 1}, api.Label{}, api.ErrArg)
	expectPair(t, one, api.Label{}, api.Label{Level: 1}, api.ErrArg)
}

// TestLatticeFirst: lattice.Check's error comes ahead of all others.
func TestLatticeFirst(t *testing.T) {
	for _, l := range wrongLattices() {
		want := lattice.Check(l)
		for _, a := range []api.Label{{}, {Mask: 1, Level: 1}, {Mask: 16}, {Level: -1}} {
			expectPair(t, l, a, api.Label{}, want)
			expectPair(t, l, api.Label{}, a, want)
			expectLeast(t, l, 1, []api.Constraint{{Label: a}}, nil, want)
		}
		expectLeast(t, l, 0, nil, nil, want)
		expectLeast(t, l, -1, nil, nil, want)
		expectLeast(t, l, 41, make([]api.Constraint, 1001), nil, want)
		expectLeast(t, l, 1, make([]api.Constraint, 1001), nil, want)
		expectLeast(t, l, 1, []api.Constraint{{To: 1}}, nil, want)
	}
}

func expectLeast(t *testing.T, l api.Lattice, n int, cons []api.Constraint, want []api.Label, errno api.Errno) {
	t.Helper()
	got, e := Least(l, n, cons)
	if e != errno || !slices.Equal(got, want) {
		t.Error(l.Names, n, len(cons), got, e, want, errno)
	}
	if e != api.OK && got != nil {
		t.Error("a list beside an error", got, e)
	}
}

func TestLeastNothingAsked(t *testing.T) {
	for _, l := range lattices() {
		low, _, _ := lattice.Ends(l)
		for _, n := range []int{0, 1, 2, 39, 40} {
			want := slices.Repeat([]api.Label{{Level: low}}, n)
			expectLeast(t, l, n, nil, want, api.OK)
			expectLeast(t, l, n, []api.Constraint{}, want, api.OK)
		}
	}
}

func TestLeast(t *testing.T) {
	const high, left, low, right = 0, 1, 2, 3
	for name, x := range map[string]struct {
		n    int
		cons []api.Constraint
		want []api.Label
	}{
		"a label alone":             {1, []api.Constraint{{Label: api.Label{Mask: 9, Level: left}}}, []api.Label{{Mask: 9, Level: left}}},
		"a level 0 is no nothing":   {2, []api.Constraint{{To: 1}}, []api.Label{{Level: low}, {Level: high}}},
		"two labels of one":         {1, []api.Constraint{{Label: api.Label{Mask: 1, Level: left}}, {Label: api.Label{Mask: 4, Level: right}}}, []api.Label{{Mask: 5, Level: high}}},
		"the lower one behind":      {1, []api.Constraint{{Label: api.Label{Mask: 3, Level: left}}, {Label: api.Label{Mask: 1, Level: low}}}, []api.Label{{Mask: 3, Level: left}}},
		"not the other way":         {2, []api.Constraint{{To: 0, From: []int{1}, Label: api.Label{Mask: 2, Level: left}}}, []api.Label{{Mask: 2, Level: left}, {Level: low}}},
		"from itself":               {1, []api.Constraint{{From: []int{0, 0}, Label: api.Label{Mask: 2, Level: right}}}, []api.Label{{Mask: 2, Level: right}}},
		"of two, beside each other": {3, []api.Constraint{{To: 0, Label: api.Label{Level: left}}, {To: 1, Label: api.Label{Mask: 8, Level: right}}, {To: 2, From: []int{0, 1}, Label: api.Label{Level: low}}}, []api.Label{{Level: left}, {Mask: 8, Level: right}, {Mask: 8, Level: high}}},
		"ahead of what it is from":  {3, []api.Constraint{{To: 2, From: []int{1}, Label: api.Label{Level: low}}, {To: 1, From: []int{0}, Label: api.Label{Level: low}}, {To: 0, Label: api.Label{Mask: 1, Level: left}}}, []api.Label{{Mask: 1, Level: left}, {Mask: 1, Level: left}, {Mask: 1, Level: left}}},
		"round":                     {4, []api.Constraint{{To: 0, From: []int{2}, Label: api.Label{Mask: 1, Level: low}}, {To: 1, From: []int{0}, Label: api.Label{Mask: 2, Level: right}}, {To: 2, From: []int{1}, Label: api.Label{Mask: 4, Level: low}}, {To: 3, Label: api.Label{Mask: 8, Level: left}}}, []api.Label{{Mask: 7, Level: right}, {Mask: 7, Level: right}, {Mask: 7, Level: right}, {Mask: 8, Level: left}}},
		"from in two constraints":   {3, []api.Constraint{{To: 0, From: []int{1}, Label: api.Label{Level: low}}, {To: 0, From: []int{2}, Label: api.Label{Level: low}}, {To: 1, Label: api.Label{Mask: 1, Level: low}}, {To: 2, Label: api.Label{Mask: 2, Level: right}}}, []api.Label{{Mask: 3, Level: right}, {Mask: 1, Level: low}, {Mask: 2, Level: right}}},
	} {
		t.Run(name, func(t *testing.T) { expectLeast(t, diamond(), x.n, x.cons, x.want, api.OK) })
	}
	low2 := api.Label{Mask: 2}
	expectLeast(t, chain("low high"), 3, []api.Constraint{{To: 1, From: []int{0, 2}}, {To: 0, Label: low2}, {To: 2, From: []int{1}, Label: api.Label{Level: 1}}},
		[]api.Label{{Mask: 2}, {Mask: 2, Level: 1}, {Mask: 2, Level: 1}}, api.OK)
}

// TestLeastLine: what comes in at one end of a line of 40 comes out at the other one, whichever way it goes.
func TestLeastLine(t *testing.T) {
	l := chain("a b c d e f")
	top := api.Label{Mask: 15, Level: 5}
	for _, step := range []int{1, -1} {
		var cons []api.Constraint
		for v := range 40 {
			if from := v - step; from >= 0 && from < 40 {
				cons = append(cons, api.Constraint{To: v, From: []int{from}})
			}
		}
		first := 0
		if step < 0 {
			first = 39
		}
		cons = append(cons, api.Constraint{To: first, Label: top})
		expectLeast(t, l, 40, cons, slices.Repeat([]api.Label{top}, 40), api.OK)
		slices.Reverse(cons)
		expectLeast(t, l, 40, cons, slices.Repeat([]api.Label{top}, 40), api.OK)
		cons[0].To = 39 - first
		want := make([]api.Label, 40)
		want[39-first] = top
		expectLeast(t, l, 40, cons, want, api.OK)
	}
}

func TestLeastWrongNumbers(t *testing.T) {
	l := chain("low high")
	for _, n := range []int{-1, 41, 42, 64, 1000, math.MinInt, math.MaxInt} {
		expectLeast(t, l, n, nil, nil, api.ErrArg)
		expectLeast(t, l, n, []api.Constraint{{To: 0}}, nil, api.ErrArg)
	}
	for _, n := range []int{0, 1, 3, 40} {
		for _, v := range []int{-1, n, n + 1, n + 64, math.MinInt, math.MaxInt} {
			expectLeast(t, l, n, []api.Constraint{{To: v}}, nil, api.ErrArg)
			expectLeast(t, l, n, []api.Constraint{{To: 0, From: []int{v}}}, nil, api.ErrArg)
			expectLeast(t, l, n, []api.Constraint{{To: 0}, {To: 0, From: []int{0, 0, v}}}, nil, api.ErrArg)
			expectLeast(t, l, n, []api.Constraint{{To: 0, From: []int{v, 0}}, {To: 0}}, nil, api.ErrArg)
		}
	}
}

// TestLeastErrorsInOrder: n, then how many constraints there are, then what is wrong with one.
func TestLeastErrorsInOrder(t *testing.T) {
	l := chain("low high")
	expectLeast(t, l, 1, make([]api.Constraint, 1000), []api.Label{{}}, api.OK)
	expectLeast(t, l, 1, make([]api.Constraint, 1001), nil, api.ErrLarge)
	expectLeast(t, l, 0, make([]api.Constraint, 1001), nil, api.ErrLarge)
	for _, bad := range []api.Constraint{{To: 1}, {To: -1}, {From: []int{1}}, {Label: api.Label{Mask: 16}}, {Label: api.Label{Level: 2}}} {
		for _, at := range []int{0, 500, 999} {
			cons := make([]api.Constraint, 1001)
			cons[at] = bad
			expectLeast(t, l, 1, cons, nil, api.ErrLarge)
			expectLeast(t, l, 1, cons[:1000], nil, api.ErrArg)
		}
	}
	expectLeast(t, l, -1, make([]api.Constraint, 1001), nil, api.ErrArg)
	expectLeast(t, l, 41, make([]api.Constraint, 1001), nil, api.ErrArg)
}

// TestLeastLongFrom: lists may be far longer than there are variables.
func TestLeastLongFrom(t *testing.T) {
	l := chain("a b c d e f")
	from := make([]int, 20000)
	for i := range from {
		from[i] = i % 39
	}
	cons := make([]api.Constraint, 1000)
	for i := range cons {
		cons[i] = api.Constraint{To: i % 40, From: from}
	}
	cons[38] = api.Constraint{To: 38, Label: api.Label{Mask: 8, Level: 4}}
	expectLeast(t, l, 40, cons, slices.Repeat([]api.Label{{Mask: 8, Level: 4}}, 40), api.OK)
}

func randomSystem(r *rand.Rand, l api.Lattice, n, most int) []api.Constraint {
	low, _, _ := lattice.Ends(l)
	cons := make([]api.Constraint, r.Intn(most+1))
	for i := range cons {
		c := api.Constraint{To: r.Intn(n), Label: api.Label{Level: low}}
		for range r.Intn(3) {
			c.From = append(c.From, r.Intn(n))
		}
		if r.Intn(3) == 0 {
			c.Label = api.Label{Mask: r.Intn(16) & r.Intn(16), Level: r.Intn(len(l.Names))}
		}
		cons[i] = c
	}
	return cons
}

func holds(l api.Lattice, cons []api.Constraint, v []api.Label) bool {
	for _, c := range cons {
		if !under(l, c.Label, v[c.To]) {
			return false
		}
		for _, from := range c.From {
			if !under(l, v[from], v[c.To]) {
				return false
			}
		}
	}
	return true
}

// TestLeastOfAllThatHold goes through all pairs of labels: what is told holds, and is below all others that do.
func TestLeastOfAllThatHold(t *testing.T) {
	r := rand.New(rand.NewSource(7))
	for _, l := range lattices() {
		all := labels(l)
		for range 25 {
			cons := randomSystem(r, l, 2, 5)
			v, e := Least(l, 2, cons)
			if e != api.OK || len(v) != 2 || !holds(l, cons, v) {
				t.Fatal(l.Names, cons, v, e)
			}
			for _, a := range all {
				for _, b := range all {
					if holds(l, cons, []api.Label{a, b}) && !(under(l, v[0], a) && under(l, v[1], b)) {
						t.Fatal(l.Names, cons, v, a, b)
					}
				}
			}
		}
	}
}

// reaching tells of each variable which variables come to it, by any number of steps.
func reaching(n int, cons []api.Constraint) [][]bool {
	to := make([][]bool, n)
	for v := range to {
		to[v] = make([]bool, n)
		to[v][v] = true
	}
	for _, c := range cons {
		for _, from := range c.From {
			to[c.To][from] = true
		}
	}
	for mid := range n {
		for a := range n {
			for b := range n {
				to[a][b] = to[a][b] || to[a][mid] && to[mid][b]
			}
		}
	}
	return to
}

// TestLeastByReach: a variable has what is asked of those that come to it, and nothing else.
func TestLeastByReach(t *testing.T) {
	r := rand.New(rand.NewSource(14))
	for _, l := range lattices() {
		low, _, _ := lattice.Ends(l)
		for i := range 200 {
			n := 1 + r.Intn(40)
			cons := randomSystem(r, l, n, 1+i%60)
			comes := reaching(n, cons)
			want := slices.Repeat([]api.Label{{Level: low}}, n)
			for v := range want {
				for _, c := range cons {
					if comes[v][c.To] {
						level, _ := lattice.Join(l, want[v].Level, c.Label.Level)
						want[v] = api.Label{Mask: want[v].Mask | c.Label.Mask, Level: level}
					}
				}
			}
			if got, e := Least(l, n, cons); e != api.OK || !slices.Equal(got, want) {
				t.Fatal(l.Names, n, cons, got, e, want)
			}
		}
	}
}

// roomy is a copy of list with spare room that is filled, so that a write to it is seen.
func roomy[T any](list []T, spare T) []T {
	out := make([]T, 0, len(list)+2)
	return append(append(out, list...), spare, spare)[:len(list)]
}

func whole[T any](list []T) []T {
	return slices.Clone(list[:cap(list)])
}

func roomyLattice(l api.Lattice) api.Lattice {
	out := api.Lattice{Names: roomy(l.Names, "spare"), Leq: roomy(l.Leq, []bool{true})}
	for i, row := range out.Leq {
		out.Leq[i] = roomy(row, true)
	}
	return out
}

func wholeLattice(l api.Lattice) api.Lattice {
	out := api.Lattice{Names: whole(l.Names), Leq: whole(l.Leq)}
	for i, row := range out.Leq {
		out.Leq[i] = whole(row)
	}
	return out
}

func roomyConstraints(cons []api.Constraint) []api.Constraint {
	out := roomy(cons, api.Constraint{To: 1, From: []int{0}, Label: api.Label{Mask: 15}})
	for i := range out {
		out[i].From = roomy(out[i].From, 1)
	}
	return out
}

func wholeConstraints(cons []api.Constraint) []api.Constraint {
	out := whole(cons)
	for i := range out {
		out[i].From = whole(out[i].From)
	}
	return out
}

// TestNothingHandedInIsChanged: P2.
func TestNothingHandedInIsChanged(t *testing.T) {
	r := rand.New(rand.NewSource(2))
	for _, plain := range lattices() {
		l := roomyLattice(plain)
		cons := roomyConstraints(randomSystem(r, plain, 5, 12))
		beforeL, beforeCons := wholeLattice(l), wholeConstraints(cons)
		a, b := api.Label{Mask: 5}, api.Label{Mask: 6, Level: len(l.Names) - 1}
		Join(l, a, b)
		Below(l, a, b)
		first, _ := Least(l, 5, cons)
		second, _ := Least(plain, 5, slices.Clone(cons))
		if !reflect.DeepEqual(beforeL, wholeLattice(l)) || !reflect.DeepEqual(beforeCons, wholeConstraints(cons)) {
			t.Error(l.Names, "changed")
		}
		if !slices.Equal(first, second) {
			t.Error(l.Names, "hangs on spare room", first, second)
		}
	}
}

// TestAnswersAreNew: P2: what is written to one answer is not seen in the next one.
func TestAnswersAreNew(t *testing.T) {
	l := diamond()
	cons := []api.Constraint{{To: 1, From: []int{0}, Label: api.Label{Mask: 1, Level: 1}}, {To: 0, Label: api.Label{Mask: 2, Level: 2}}}
	want := []api.Label{{Mask: 2, Level: 2}, {Mask: 3, Level: 1}, {Level: 2}}
	for range 3 {
		got, e := Least(l, 3, cons)
		if e != api.OK || !slices.Equal(got, want) {
			t.Error(got, e)
		}
		for i := range got[:cap(got)] {
			got[:cap(got)][i] = api.Label{Mask: 15}
		}
		Least(chain("a b c d e f"), 40, []api.Constraint{{To: 2, Label: api.Label{Mask: 15, Level: 5}}})
		Least(l, 3, []api.Constraint{{To: 3}})
	}
	l.Leq = chain("a b c d").Leq
	expectLeast(t, l, 2, cons, []api.Label{{Mask: 2, Level: 2}, {Mask: 3, Level: 2}}, api.OK)
}
