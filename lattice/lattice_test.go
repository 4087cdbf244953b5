package lattice

import (
	"math"
	"reflect"
	"slices"
	"strings"
	"testing"

	"lowdown/api"
)

// order makes a lattice of names parted by blanks; pairs, such as "a<b", are all that is below another level.
func order(names, pairs string) api.Lattice {
	l := api.Lattice{Names: strings.Fields(names)}
	for i := range l.Names {
		row := make([]bool, len(l.Names))
		row[i] = true
		l.Leq = append(l.Leq, row)
	}
	for _, p := range strings.Fields(pairs) {
		a, b, _ := strings.Cut(p, "<")
		l.Leq[slices.Index(l.Names, a)][slices.Index(l.Names, b)] = true
	}
	return l
}

// chain is of names, each below all behind it.
func chain(names string) api.Lattice {
	l := order(names, "")
	for a := range l.Leq {
		for b := a; b < len(l.Leq); b++ {
			l.Leq[a][b] = true
		}
	}
	return l
}

func diamond() api.Lattice {
	return order("high left low right", "low<left low<right low<high left<high right<high")
}

// crown has ends, but a and b are both below c and d, of which none is below the other.
func crown() api.Lattice {
	return order("o a b c d i", "o<a o<b o<c o<d o<i a<c a<d a<i b<c b<d b<i c<i d<i")
}

func square(n int, v bool) [][]bool {
	leq := make([][]bool, n)
	for a := range leq {
		leq[a] = slices.Repeat([]bool{v}, n)
	}
	return leq
}

func TestCheckAccepts(t *testing.T) {
	for name, l := range map[string]api.Lattice{
		"one level":    chain("a"),
		"low high":     chain("low high"),
		"high first":   order("high low", "low<high"),
		"six":          chain("a b c d e f"),
		"long name":    chain("abcdefgh z"),
		"diamond":      diamond(),
		"three beside": order("o a b c i", "o<a o<b o<c o<i a<i b<i c<i"),
		"pentagon":     order("o a b c i", "o<a o<b o<c o<i a<b a<i b<i c<i"),
	} {
		if e := Check(l); e != api.OK {
			t.Error(name, e)
		}
	}
}

func TestCheckNames(t *testing.T) {
	for _, names := range [][]string{
		nil, {}, {""}, {"a", ""}, {"abcdefghi"}, {"A"}, {"a1"}, {"a b"}, {"a."}, {"`"}, {"{"}, {"ä"}, {"a\x00"}, {"\xff"},
		{"a", "a"}, {"a", "b", "a"},
	} {
		l := api.Lattice{Names: names, Leq: chain("a b c d e f").Leq}
		if e := Check(l); e != api.ErrArg {
			t.Errorf("%q %v", names, e)
		}
	}
}

func TestCheckLarge(t *testing.T) {
	if e := Check(chain("a b c d e f g")); e != api.ErrLarge {
		t.Error(e)
	}
	many := make([]string, 0, 26*26*26)
	for i := range cap(many) {
		many = append(many, string([]byte{'a' + byte(i/676), 'a' + byte(i/26%26), 'a' + byte(i%26)}))
	}
	if e := Check(api.Lattice{Names: many}); e != api.ErrLarge {
		t.Error(e)
	}
}

func TestCheckTellsTheFirstError(t *testing.T) {
	bad := [][]bool{{false}}
	for name, x := range map[string]struct {
		l    api.Lattice
		want api.Errno
	}{
		"large, a name twice":    {api.Lattice{Names: strings.Fields("a b c d e f a")}, api.ErrArg},
		"large, the last is bad": {api.Lattice{Names: strings.Fields("a b c d e f g H")}, api.ErrArg},
		"no level, a row":        {api.Lattice{Leq: bad}, api.ErrArg},
		"bad name, bad rows":     {api.Lattice{Names: []string{"a-"}, Leq: bad}, api.ErrArg},
		"large, bad rows":        {api.Lattice{Names: strings.Fields("a b c d e f g"), Leq: bad}, api.ErrLarge},
	} {
		if e := Check(x.l); e != x.want {
			t.Error(name, e)
		}
	}
}

func TestCheckForm(t *testing.T) {
	ab := []string{"a", "b"}
	for name, l := range map[string]api.Lattice{
		"no rows":        {Names: ab},
		"a row missing":  {Names: ab, Leq: [][]bool{{true, true}}},
		"a row more":     {Names: ab, Leq: [][]bool{{true, true}, {false, true}, {}}},
		"a short row":    {Names: ab, Leq: [][]bool{{true, true}, {false}}},
		"a long row":     {Names: ab, Leq: [][]bool{{true, true}, {false, true, true}}},
		"a nil row":      {Names: ab, Leq: [][]bool{{true, true}, nil}},
		"not itself":     {Names: ab, Leq: [][]bool{{true, true}, {false, false}}},
		"alone, not so":  {Names: []string{"a"}, Leq: [][]bool{{false}}},
		"each other":     {Names: ab, Leq: square(2, true)},
		"all of three":   {Names: []string{"a", "b", "c"}, Leq: square(3, true)},
		"not by a third": order("a b c", "a<b b<c"),
		"round":          order("a b c", "a<b b<c c<a"),
		"beside":         order("a b", ""),
		"no join":        order("o a b", "o<a o<b"),
		"no meet":        order("a b i", "a<i b<i"),
		"crown":          crown(),
		"a step missing": order("low left right high", "low<left low<right left<high right<high"),
	} {
		if e := Check(l); e != api.ErrForm {
			t.Error(name, e)
		}
	}
}

// The numbers of orders of n named things that are lattices are known; all else must be refused.
func TestCheckCounts(t *testing.T) {
	names := strings.Fields("a b c d e")
	for n, want := range map[int]int{1: 1, 2: 2, 3: 6, 4: 36, 5: 380} {
		l := api.Lattice{Names: names[:n], Leq: square(n, true)}
		got := 0
		for bits := range 1 << (n*n - n) {
			setPairs(l.Leq, bits)
			if Check(l) == api.OK {
				got++
			}
		}
		if got != want {
			t.Error(n, got, want)
		}
	}
}

// setPairs writes bits to all places of leq that are of two levels.
func setPairs(leq [][]bool, bits int) {
	for a := range leq {
		for b := range leq {
			if a != b {
				leq[a][b] = bits&1 == 1
				bits >>= 1
			}
		}
	}
}

func TestFind(t *testing.T) {
	l := diamond()
	for i, name := range l.Names {
		if k, e := Find(l, name); k != i || e != api.OK {
			t.Error(name, k, e)
		}
	}
	for _, name := range []string{"", "up", "lo", "loww", "Low", " low", "\xff"} {
		if k, e := Find(l, name); k != 0 || e != api.ErrNone {
			t.Errorf("%q %v %v", name, k, e)
		}
	}
}

func TestJoinMeetDiamond(t *testing.T) {
	l := diamond() // high 0, left 1, low 2, right 3
	for _, x := range [][4]int{
		{0, 0, 0, 0}, {0, 1, 0, 1}, {0, 2, 0, 2}, {0, 3, 0, 3}, {1, 1, 1, 1},
		{1, 2, 1, 2}, {1, 3, 0, 2}, {2, 2, 2, 2}, {2, 3, 3, 2}, {3, 3, 3, 3},
	} {
		for _, p := range [][2]int{{x[0], x[1]}, {x[1], x[0]}} {
			j, e := Join(l, p[0], p[1])
			m, f := Meet(l, p[0], p[1])
			if e != api.OK || f != api.OK || j != x[2] || m != x[3] {
				t.Error(p, j, e, m, f)
			}
		}
	}
}

func TestJoinMeetPentagon(t *testing.T) {
	l := order("o a b c i", "o<a o<b o<c o<i a<b a<i b<i c<i")
	for _, x := range [][4]int{{1, 2, 2, 1}, {1, 3, 4, 0}, {2, 3, 4, 0}, {0, 4, 4, 0}} {
		j, e := Join(l, x[0], x[1])
		m, f := Meet(l, x[0], x[1])
		if e != api.OK || f != api.OK || j != x[2] || m != x[3] {
			t.Error(x, j, e, m, f)
		}
	}
}

func TestJoinMeetNoLevel(t *testing.T) {
	l := diamond()
	for _, bad := range []int{-1, 4, 5, math.MinInt, math.MaxInt} {
		for _, p := range [][2]int{{bad, 0}, {3, bad}, {bad, bad}} {
			j, e := Join(l, p[0], p[1])
			m, f := Meet(l, p[0], p[1])
			if e != api.ErrArg || f != api.ErrArg || j != 0 || m != 0 {
				t.Error(p, j, e, m, f)
			}
		}
	}
}

func TestEnds(t *testing.T) {
	for _, x := range []struct {
		l        api.Lattice
		low, top int
	}{
		{chain("a"), 0, 0},
		{chain("low high"), 0, 1},
		{order("high low", "low<high"), 1, 0},
		{diamond(), 2, 0},
		{chain("a b c d e f"), 0, 5},
	} {
		if low, top, e := Ends(x.l); low != x.low || top != x.top || e != api.OK {
			t.Error(x.l.Names, low, top, e)
		}
	}
}

// Check's error comes ahead of what is wrong with a name or a number, and nothing is told beside it.
func TestCallsTellCheckFirst(t *testing.T) {
	for _, l := range []api.Lattice{
		{},
		{Names: []string{"a", "a"}, Leq: square(2, true)},
		{Names: []string{"a", "b"}, Leq: [][]bool{nil, nil}},
		chain("a b c d e f g"),
		crown(),
	} {
		want := Check(l)
		if want == api.OK {
			t.Error(l)
		}
		for _, name := range []string{"b", "nowhere"} {
			if k, e := Find(l, name); k != 0 || e != want {
				t.Error(l, name, k, e)
			}
		}
		for _, k := range []int{-1, 1, 9} {
			j, e := Join(l, k, 1)
			m, f := Meet(l, 1, k)
			if j != 0 || m != 0 || e != want || f != want {
				t.Error(l, k, j, e, m, f)
			}
		}
		if a, b, e := Ends(l); a != 0 || b != 0 || e != want {
			t.Error(l, a, b, e)
		}
	}
}

func callAll(l api.Lattice) []any {
	f, e1 := Find(l, "left")
	j, e2 := Join(l, 1, 3)
	m, e3 := Meet(l, 1, 3)
	a, b, e4 := Ends(l)
	return []any{Check(l), f, e1, j, e2, m, e3, a, b, e4}
}

// roomy is l in lists with spare room, and that room is filled, so that a write to it is seen.
func roomy(l api.Lattice) api.Lattice {
	r := api.Lattice{
		Names: append(slices.Clone(l.Names), "spare", "spare")[:len(l.Names)],
		Leq:   append(slices.Clone(l.Leq), []bool{true})[:len(l.Leq)],
	}
	for i, row := range r.Leq {
		r.Leq[i] = append(slices.Clone(row), true, false, true)[:len(row)]
	}
	return r
}

// whole is l with all of its spare room.
func whole(l api.Lattice) api.Lattice {
	w := api.Lattice{Names: slices.Clone(l.Names[:cap(l.Names)]), Leq: slices.Clone(l.Leq[:cap(l.Leq)])}
	for i, row := range w.Leq {
		w.Leq[i] = slices.Clone(row[:cap(row)])
	}
	return w
}

func TestNothingHandedInIsChanged(t *testing.T) {
	for _, l := range []api.Lattice{diamond(), crown(), order("b a", ""), chain("g f e d c b a")} {
		r := roomy(l)
		before := whole(r)
		first := callAll(r)
		if !reflect.DeepEqual(before, whole(r)) {
			t.Error(l.Names, "changed")
		}
		if !reflect.DeepEqual(first, callAll(l)) {
			t.Error(l.Names, "hangs on spare room")
		}
	}
}

func TestNothingIsKept(t *testing.T) {
	l := diamond()
	first := callAll(l)
	callAll(crown())
	callAll(chain("left a b c"))
	if again := callAll(l); !reflect.DeepEqual(first, again) {
		t.Error(first, again)
	}
	l.Leq = chain("a b c d").Leq
	if j, e := Join(l, 1, 3); j != 3 || e != api.OK {
		t.Error("an answer of the lattice that was there before", j, e)
	}
}
