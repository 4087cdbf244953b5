package low

import (
	"math"
	"slices"
	"strconv"
	"strings"
	"testing"

	"lowdown/api"
)

// order makes a lattice of names parted by blanks; pairs, such as "a<b", are all that is below another level.
func order(levels, pairs string) api.Lattice {
	l := api.Lattice{Names: strings.Fields(levels)}
	for i := range l.Names {
		row := make([]bool, len(l.Names))
		row[i] = true
		l.Leq = append(l.Leq, row)
	}
	for _, p := range strings.Fields(pairs) {
		a, b, _ := strings.Cut(p, "<")
		l.Leq[slices.Index(l.Names, a)][slices.Index(l.Names, b)] = true
	}
	return l
}

func two() api.Lattice { return order("low high", "low<high") }

// diamond: neither end is the first level.
func diamond() api.Lattice {
	return order("left high right low", "low<left low<right low<high left<high right<high")
}

// module has variables "NAME:LEVEL", parted by blanks.
func module(name, vars string) api.Module {
	m := api.Module{Name: name}
	for _, v := range strings.Fields(vars) {
		variable, level, _ := strings.Cut(v, ":")
		m.Vars = append(m.Vars, api.Var{Name: variable, Level: level})
	}
	return m
}

// store has cells "MOD.NAME", parted by blanks; the values tell them from one another.
func store(places string) []api.Cell {
	var out []api.Cell
	for i, p := range strings.Fields(places) {
		mod, name, _ := strings.Cut(p, ".")
		out = append(out, api.Cell{Mod: mod, Name: name, Value: 100 - i})
	}
	return out
}

// expectCells: want are the numbers of those cells that are seen, each a digit.
func expectCells(t *testing.T, l api.Lattice, mods []api.Module, cells []api.Cell, level, want string) {
	t.Helper()
	got, e := Cells(l, mods, cells, slices.Index(l.Names, level))
	var seen []api.Cell
	for _, digit := range want {
		seen = append(seen, cells[digit-'0'])
	}
	if e != api.OK || !slices.Equal(got, seen) {
		t.Errorf("%s: %d\n%v\nwant\n%v", level, e, got, seen)
	}
}

func expectPrints(t *testing.T, l api.Lattice, prints []api.Print, level, want string) {
	t.Helper()
	got, e := Prints(l, prints, slices.Index(l.Names, level))
	var seen []api.Print
	for _, digit := range want {
		seen = append(seen, prints[digit-'0'])
	}
	if e != api.OK || !slices.Equal(got, seen) {
		t.Errorf("%s: %d\n%v\nwant\n%v", level, e, got, seen)
	}
}

// TestCells: what is beside one's level isn't seen, be one above all but it or not.
func TestCells(t *testing.T) {
	mods := []api.Module{module("m", "x:low y:high"), module("n", "x:high z:low")}
	cells := store("n.z m.y n.x m.x")
	expectCells(t, two(), mods, cells, "low", "03")
	expectCells(t, two(), mods, cells, "high", "0123")
	turned := order("high low", "low<high")
	expectCells(t, turned, mods, cells, "low", "03")
	expectCells(t, turned, mods, cells, "high", "0123")
	mods = []api.Module{module("m", "a:left b:high c:right d:low")}
	cells = store("m.d m.c m.b m.a")
	expectCells(t, diamond(), mods, cells, "low", "0")
	expectCells(t, diamond(), mods, cells, "left", "03")
	expectCells(t, diamond(), mods, cells, "right", "01")
	expectCells(t, diamond(), mods, cells, "high", "0123")
	expectCells(t, order("a", ""), []api.Module{module("m", "x:a")}, store("m.x m.x"), "a", "01")
}

func TestPrints(t *testing.T) {
	prints := []api.Print{{Level: "high", Value: 4}, {Level: "low", Value: 3}, {Level: "right", Value: 2}, {Level: "left", Value: 1}, {Level: "low", Value: 3}}
	expectPrints(t, two(), prints, "low", "14")
	expectPrints(t, two(), prints, "high", "014")
	expectPrints(t, order("high low", "low<high"), prints, "low", "14")
	expectPrints(t, order("high low", "low<high"), prints, "high", "014")
	expectPrints(t, diamond(), prints, "low", "14")
	expectPrints(t, diamond(), prints, "left", "134")
	expectPrints(t, diamond(), prints, "right", "124")
	expectPrints(t, diamond(), prints, "high", "01234")
	expectPrints(t, order("right", ""), prints, "right", "2")
}

// TestNoVariable: a cell of none, or of none whose Level is a level's name, nobody sees.
func TestNoVariable(t *testing.T) {
	m := module("m", "x:low a:mid b: c:lo d:lowly e:LOW f:0")
	m.Imports = []string{"n"}
	m.Funs = []api.Fun{{Name: "g", Params: []string{"p"}, Body: []api.Stmt{{Kind: api.SSet, Name: "t", E: api.Expr{Kind: api.ENumber}}}, Result: api.Expr{Kind: api.EName, Name: "x"}}}
	cells := store("m.a m.b m.c m.d m.e m.f m.g m.p m.t m.x")
	for _, level := range []string{"low", "high"} {
		expectCells(t, two(), []api.Module{m}, cells, level, "9")
		expectCells(t, two(), []api.Module{m}, store("n.x x.m . m. .x M.x m.X m.x.x mm.x"), level, "")
		expectCells(t, two(), nil, cells, level, "")
		expectCells(t, two(), []api.Module{m}, nil, level, "")
		expectPrints(t, two(), []api.Print{{Level: "mid"}, {}, {Level: "lo"}, {Level: "lowly"}, {Level: "LOW"}, {Level: "0"}, {Level: "low"}, {Level: "low "}}, level, "6")
		expectPrints(t, two(), nil, level, "")
	}
}

// TestFirst: of two of one name the first one counts, be it one that nobody sees.
func TestFirst(t *testing.T) {
	cells := store("m.x m.y m.z")
	for what, c := range map[string]struct {
		mods      []api.Module
		low, high string
	}{
		"a Var twice, low first":       {[]api.Module{module("m", "x:low x:high x:mid")}, "0", "0"},
		"a Var twice, high first":      {[]api.Module{module("m", "x:high x:low x:mid")}, "", "0"},
		"a Var twice, no level first":  {[]api.Module{module("m", "x:mid x:low x:high")}, "", ""},
		"a Var twice, empty first":     {[]api.Module{module("m", "x: x:low")}, "", ""},
		"a Var between":                {[]api.Module{module("m", "x:high y:low x:low")}, "1", "01"},
		"a module twice, low first":    {[]api.Module{module("m", "x:low"), module("m", "x:high")}, "0", "0"},
		"a module twice, high first":   {[]api.Module{module("m", "x:high"), module("m", "x:low")}, "", "0"},
		"a module twice, no level":     {[]api.Module{module("m", "x:mid"), module("m", "x:low")}, "", ""},
		"a module twice, none in it":   {[]api.Module{module("m", ""), module("m", "x:low")}, "", ""},
		"a module twice, others in it": {[]api.Module{module("m", "y:low"), module("m", "x:low y:high")}, "1", "1"},
		"a module between":             {[]api.Module{module("n", "x:high"), module("m", "z:low x:high"), module("n", "z:high"), module("m", "x:low z:high")}, "2", "02"},
	} {
		t.Run(what, func(t *testing.T) {
			expectCells(t, two(), c.mods, cells, "low", c.low)
			expectCells(t, two(), c.mods, cells, "high", c.high)
		})
	}
}

// TestAllCells: each by itself, in order, whatever its Value, and be there more of its variable or not.
func TestAllCells(t *testing.T) {
	mods := []api.Module{module("m", "x:low y:high")}
	cells := []api.Cell{
		{Mod: "m", Name: "x", Value: math.MaxInt}, {Mod: "m", Name: "y", Value: 0}, {Mod: "m", Name: "x", Value: math.MinInt},
		{Mod: "m", Name: "x", Value: 0}, {Mod: "m", Name: "y", Value: -1}, {Mod: "m", Name: "x", Value: 0},
	}
	expectCells(t, two(), mods, cells, "low", "0235")
	expectCells(t, two(), mods, cells, "high", "012345")
}

// TestAnyModules: they need not be such as tree.Check lets go, nor few.
func TestAnyModules(t *testing.T) {
	mods := []api.Module{
		{}, {Name: "", Vars: []api.Var{{Name: "x", Level: "low"}}},
		{Name: "a.b", Vars: []api.Var{{Name: "c", Level: "low"}, {Name: "", Level: "low"}, {Name: "\xff\n (", Level: "high"}}},
		{Name: "a", Vars: []api.Var{{Name: "b.c", Level: "high"}, {Level: "low"}}},
		{Name: "averylongname", Vars: []api.Var{{Name: "1", Level: "low"}}, Funs: []api.Fun{{}, {Body: make([]api.Stmt, 3)}}},
		{Name: "m"}, {Name: "n"}, {Name: "many", Vars: append(make([]api.Var, 9), api.Var{Name: "z", Level: "low"})},
	}
	cells := []api.Cell{
		{}, {Name: "x"}, {Mod: "a.b", Name: "c"}, {Mod: "a", Name: "b.c"}, {Mod: "a.b"}, {Mod: "a.b", Name: "\xff\n ("}, {Mod: "a"},
		{Mod: "averylongname", Name: "1"}, {Mod: "many", Name: "z"}, {Mod: "many"},
	}
	expectCells(t, two(), mods, cells, "low", "24678")
	expectCells(t, two(), mods, cells, "high", "2345678")
	expectCells(t, two(), mods[1:], cells, "low", "124678")
}

// expectErrors asks both calls.
func expectErrors(t *testing.T, what string, l api.Lattice, level int, want api.Errno) {
	t.Helper()
	cells, e := Cells(l, []api.Module{module("m", "x:low")}, store("m.x"), level)
	if e != want || cells != nil {
		t.Error("cells", what, level, e, cells)
	}
	if _, e := Cells(l, nil, nil, level); e != want {
		t.Error("no cells", what, level, e)
	}
	prints, e := Prints(l, []api.Print{{Level: "low"}}, level)
	if e != want || prints != nil {
		t.Error("prints", what, level, e, prints)
	}
	if _, e := Prints(l, nil, level); e != want {
		t.Error("no prints", what, level, e)
	}
}

// TestErrors: the lattice's stands ahead of level's, be level one's number or not.
func TestErrors(t *testing.T) {
	for _, level := range []int{math.MinInt, -2, -1, 2, 3, math.MaxInt} {
		expectErrors(t, "no level", two(), level, api.ErrArg)
	}
	expectErrors(t, "no level", order("low", ""), 1, api.ErrArg)
	expectErrors(t, "no level", diamond(), 4, api.ErrArg)
	short := two()
	short.Leq = short.Leq[:1]
	ragged := two()
	ragged.Leq[1] = ragged.Leq[1][:1]
	for _, level := range []int{math.MinInt, -1, 0, 1, 2, 6, 7, math.MaxInt} {
		expectErrors(t, "no lattice", api.Lattice{}, level, api.ErrArg)
		expectErrors(t, "a name twice", order("low low", ""), level, api.ErrArg)
		expectErrors(t, "no name", order("low High", "low<High"), level, api.ErrArg)
		expectErrors(t, "many", order("low b c d e f g", ""), level, api.ErrLarge)
		expectErrors(t, "a row missing", short, level, api.ErrForm)
		expectErrors(t, "a value missing", ragged, level, api.ErrForm)
		expectErrors(t, "beside", order("low high", ""), level, api.ErrForm)
		expectErrors(t, "round", order("low high", "low<high high<low"), level, api.ErrForm)
	}
}

// TestMany: nothing bounds how many modules, variables and cells there are.
func TestMany(t *testing.T) {
	const n = 200000
	large := api.Module{Name: "m"}
	mods := make([]api.Module, 0, n)
	cells := make([]api.Cell, 0, 2*n)
	prints := make([]api.Print, 0, n)
	for i := range n {
		name, level := strconv.Itoa(i), []string{"low", "high"}[i%2]
		large.Vars = append(large.Vars, api.Var{Name: name, Level: level})
		mods = append(mods, api.Module{Name: name, Vars: []api.Var{{Name: "x", Level: level}}})
		cells = append(cells, api.Cell{Mod: "m", Name: name}, api.Cell{Mod: name, Name: "x"})
		prints = append(prints, api.Print{Level: level})
	}
	mods = append(mods, large)
	for level, want := range []int{n, 2 * n} {
		got, e := Cells(two(), mods, cells, level)
		if e != api.OK || len(got) != want {
			t.Error(level, len(got), e)
		}
		told, e := Prints(two(), prints, level)
		if e != api.OK || len(told) != want/2 {
			t.Error(level, len(told), e)
		}
	}
}
