package check

import (
	"slices"
	"strconv"
	"strings"
	"testing"

	"lowdown/api"
	"lowdown/parse"
)

// order makes a lattice of names parted by blanks; pairs, such as "a<b", are all that is below another level.
func order(levels, pairs string) api.Lattice {
	l := api.Lattice{Names: strings.Fields(levels)}
	for i := range l.Names {
		row := make([]bool, len(l.Names))
		row[i] = true
		l.Leq = append(l.Leq, row)
	}
	for _, p := range strings.Fields(pairs) {
		a, b, _ := strings.Cut(p, "<")
		l.Leq[slices.Index(l.Names, a)][slices.Index(l.Names, b)] = true
	}
	return l
}

func two() api.Lattice { return order("low high", "low<high") }

// diamond: neither end is the first level.
func diamond() api.Lattice {
	return order("left high right low", "low<left low<right low<high left<high right<high")
}

func read(t *testing.T, texts ...string) []api.Module {
	t.Helper()
	var out []api.Module
	for _, s := range texts {
		m, at, e := parse.Parse(s)
		if e != api.OK {
			t.Fatal(s, at, e)
		}
		out = append(out, m)
	}
	return out
}

// graph has modules "NAME:IMPORT,IMPORT", parted by blanks.
func graph(s string) []api.Module {
	var out []api.Module
	for _, word := range strings.Fields(s) {
		name, imports, _ := strings.Cut(word, ":")
		m := api.Module{Name: name}
		if imports != "" {
			m.Imports = strings.Split(imports, ",")
		}
		out = append(out, m)
	}
	return out
}

// lines tells an answer: "f : BOUND .. @ PC = MASK LEVEL does EFFECT ..", or "CODE FUN NAME", of no function "CODE - NAME".
func lines(l api.Lattice, a api.Answer) []string {
	var out []string
	for _, s := range a.Schemes {
		words := []string{s.Fun, ":"}
		for _, bound := range s.Bounds {
			words = append(words, l.Names[bound])
		}
		words = append(words, "@", l.Names[s.PC], "=", strconv.Itoa(s.Result.Mask), l.Names[s.Result.Level], "does")
		out = append(out, strings.Join(append(words, s.Effects...), " "))
	}
	for _, d := range a.Diags {
		fun := d.Fun
		if fun == "" {
			fun = "-"
		}
		out = append(out, strconv.Itoa(d.Code)+" "+fun+" "+d.Name)
	}
	return out
}

func expect(t *testing.T, l api.Lattice, mods []api.Module, name string, want ...string) {
	t.Helper()
	a, e := Answer(l, mods, name)
	if got := lines(l, a); e != api.OK || !slices.Equal(got, want) {
		t.Errorf("%s of %v: %d\n%s\nwant\n%s", name, mods, e, strings.Join(got, "\n"), strings.Join(want, "\n"))
	}
	if len(a.Schemes) > 0 && len(a.Diags) > 0 {
		t.Error("both", a)
	}
}

func expectErrno(t *testing.T, what string, l api.Lattice, mods []api.Module, name string, want api.Errno) {
	t.Helper()
	a, e := Answer(l, mods, name)
	if e != want || e != api.OK && (a.Schemes != nil || a.Diags != nil) {
		t.Errorf("%s: %s: %d %v; want %d", what, name, e, a, want)
	}
}

// TestForm: each error, and which of them comes first; Answer tells it too, ahead of what it has to say itself.
func TestForm(t *testing.T) {
	none, large := api.Module{}, api.Module{Name: "x", Vars: make([]api.Var, 9)}
	six, seven := graph("a b c d e f"), graph("a b c d e f g")
	short := two()
	short.Leq = short.Leq[1:]
	for what, c := range map[string]struct {
		l    api.Lattice
		mods []api.Module
		want api.Errno
	}{
		"none":                      {two(), nil, api.OK},
		"one":                       {two(), six[:1], api.OK},
		"six":                       {two(), six, api.OK},
		"seven":                     {two(), seven, api.ErrLarge},
		"seven, none of them right": {two(), make([]api.Module, 7), api.ErrLarge},
		"seven of one name":         {two(), slices.Repeat(six[:1], 7), api.ErrLarge},
		"no levels":                 {api.Lattice{}, seven, api.ErrArg},
		"many levels":               {order("a b c d e f g", ""), []api.Module{none}, api.ErrLarge},
		"no lattice":                {short, seven, api.ErrForm},
		"levels beside each other":  {order("a b", ""), []api.Module{large}, api.ErrForm},
		"no module":                 {two(), []api.Module{none}, api.ErrForm},
		"no module at the end":      {two(), append(graph("a b c"), none), api.ErrForm},
		"a large one":               {two(), []api.Module{large}, api.ErrLarge},
		"no module, a large one":    {two(), []api.Module{none, large}, api.ErrForm},
		"a large one, no module":    {two(), []api.Module{six[0], large, none}, api.ErrLarge},
		"two of one name":           {two(), graph("a a"), api.ErrForm},
		"two, not side by side":     {two(), graph("a b c d e a"), api.ErrForm},
		"two, and a large one":      {two(), append(graph("a a"), large), api.ErrLarge},
		"two, and a large one ahead": {
			two(), append([]api.Module{large}, graph("a a")...), api.ErrLarge},
		// what is wrong with names, levels and imports is no error
		"imports": {two(), graph("a:a,b,b,gone b:a"), api.OK},
		"levels":  {two(), []api.Module{{Name: "a", Vars: []api.Var{{Name: "x", Level: "none"}, {Name: "x", Level: "low"}}}}, api.OK},
	} {
		if e := Form(c.l, c.mods); e != c.want {
			t.Errorf("%s: %d; want %d", what, e, c.want)
		}
		if c.want != api.OK {
			expectErrno(t, what, c.l, c.mods, "a", c.want)
			expectErrno(t, what, c.l, c.mods, "gone", c.want)
		}
	}
}

// TestReach: by one step or more, rising, each once.
func TestReach(t *testing.T) {
	for s, reach := range map[string]map[string]string{
		"":                           {"a": "", "": ""},
		"a":                          {"a": "", "b": "", "": ""},
		"a:a":                        {"a": "a"},
		"a:b b:":                     {"a": "b", "b": ""},
		"b: a:b":                     {"a": "b", "b": ""},
		"a:b b:a":                    {"a": "a b", "b": "a b"},
		"a:b,gone b:more,b":          {"a": "b", "b": "b", "gone": "", "more": ""},
		"a:z,c,m,c,z m: z: c:":       {"a": "c m z"},
		"a:b b:c c:d d:":             {"a": "b c d", "b": "c d", "c": "d", "d": ""},
		"d:e e:c c:d a:d f:":         {"a": "c d e", "c": "c d e", "d": "c d e", "e": "c d e", "f": ""},
		"a:b,c b:d c:d d:e e:":       {"a": "b c d e", "b": "d e", "c": "d e", "e": ""},
		"a:b b:b,c c:":               {"a": "b c", "b": "b c", "c": ""},
		"a:b b:c,a c:":               {"a": "a b c", "b": "a b c", "c": ""},
		"a:aa,ab aa: ab:b b:B B:1 1": {"a": "1 B aa ab b", "aa": "", "ab": "1 B b"},
		// of modules with one name the first one counts
		"a:b a:c b: c:":          {"a": "b"},
		"a: a:c c:a":             {"a": "", "c": "a"},
		"c:a b:c a:d b:a d: a:b": {"b": "a c d", "c": "a d", "a": "d"},
		"a:b b: b:a":             {"a": "b", "b": ""},
		// there may be more than six of them
		"a:b b:c c:d d:e e:f f:g g:h h:i": {"a": "b c d e f g h", "c": "d e f g h", "g": "h", "h": ""},
	} {
		for name, want := range reach {
			if got := Reach(graph(s), name); !slices.Equal(got, strings.Fields(want)) {
				t.Errorf("%q of %q: %q; want %q", name, s, got, want)
			}
		}
	}
}

// TestReachOfAnyTexts: the modules need not be such as tree.Check lets go.
func TestReachOfAnyTexts(t *testing.T) {
	mods := []api.Module{
		{Imports: []string{"", "\xff\n (", "averylongname", "a.b"}},
		{Name: "\xff\n (", Vars: make([]api.Var, 20), Funs: make([]api.Fun, 20)},
		{Name: "a.b", Imports: []string{"a", "b", "\x00"}},
		{Name: "\x00", Imports: slices.Repeat([]string{"a.b"}, 20)},
		{Name: "averylongname"},
	}
	if got := Reach(mods, ""); !slices.Equal(got, []string{"", "\x00", "a.b", "averylongname", "\xff\n ("}) {
		t.Errorf("%q", got)
	}
	if got := Reach(mods, "\x00"); !slices.Equal(got, []string{"\x00", "a.b"}) {
		t.Errorf("%q", got)
	}
	if got := Reach(mods[1:], ""); len(got) != 0 {
		t.Errorf("%q", got)
	}
}

// TestReachFar: nothing bounds how many modules there are, one behind another or all beside one another.
func TestReachFar(t *testing.T) {
	const n = 300000
	var chain, star []api.Module
	for i := range n {
		name := strconv.Itoa(n + i)
		chain = append(chain, api.Module{Name: name, Imports: []string{strconv.Itoa(n + i + 1), "gone"}})
		star = append(star, api.Module{Name: name, Imports: []string{"all"}})
	}
	all := api.Module{Name: "all"}
	for _, m := range star {
		all.Imports = append(all.Imports, m.Name)
	}
	if got := Reach(chain, strconv.Itoa(n)); len(got) != n-1 || !slices.IsSorted(got) || got[0] != strconv.Itoa(n+1) {
		t.Error(len(got))
	}
	if got := Reach(append(star, all), strconv.Itoa(n)); len(got) != n+1 || !slices.IsSorted(got) {
		t.Error(len(got))
	}
}

// TestNoSuchModule: an import's name, or a function's, is no module's.
func TestNoSuchModule(t *testing.T) {
	mods := read(t, "(module a (import gone) (var x low) (fun f () 1))")
	for _, name := range []string{"gone", "f", "x", "low", "", "A", "a ", "aa"} {
		expectErrno(t, "no such module", two(), mods, name, api.ErrNone)
		expectErrno(t, "no module", two(), nil, name, api.ErrNone)
	}
}

// TestAlone: scheme.Infer's answer of it, whatever the others are.
func TestAlone(t *testing.T) {
	a := "(module a (var x low) (fun f (p) (set x p) 0))"
	scheme := "f : low @ low = 0 low does w:a.x"
	expect(t, two(), read(t, a), "a", scheme)
	expect(t, two(), read(t, "(module c (fun g (p q) (print high q) p))", a, "(module b (import b) (fun h () (call gone)))"), "a", scheme)
	expect(t, two(), read(t, "(module a)"), "a")
	expect(t, two(), read(t, "(module a (var x high) (var y low) (fun f () (set y x) (print low x) 0))"), "a", "6 f low", "6 f y")
	expect(t, two(), read(t, "(module a (import gone) (var x none) (fun f (p p) (call b.g)))"), "a", "1 - gone", "3 - none", "2 f p", "4 f b.g")
	// one that isn't imported isn't known by name
	expect(t, two(), read(t, "(module a (fun f () (call b.g)))", "(module b (fun g () 1))"), "a", "4 f b.g")
}

// TestSchemesOfImports: what is known of a call is what that module's own answer tells; the modules' order is no matter.
func TestSchemesOfImports(t *testing.T) {
	texts := []string{
		"(module a (import c) (import b) (var x low) (fun f (p) (call b.g p (call c.h))) (fun e (p q) (set x q) (call c.k p)))",
		"(module b (import c) (var y left) (fun g (p q) (set y p) (+ q (call c.k p))))",
		"(module c (var z right) (fun h () z) (fun k (r) (print high r) 7))",
		"(module d (import a) (fun g (p q) (call a.e (call a.f p) q)))",
		"(module e (var z low) (fun g (p q) (set z p) (print low q) 0))",
	}
	want := map[string][]string{
		"a": {"f : left @ left = 0 right does p:high r:c.z w:b.y", "e : high low @ low = 0 low does p:high w:a.x"},
		"b": {"g : left high @ left = 2 low does p:high w:b.y"},
		"c": {"h : @ high = 0 right does r:c.z", "k : high @ high = 0 low does p:high"},
		"d": {"g : left low @ low = 0 low does p:high r:c.z w:a.x w:b.y"},
		"e": {"g : low low @ low = 0 low does p:low w:e.z"},
	}
	for i := range texts {
		mods := read(t, append(slices.Clone(texts[i:]), texts[:i]...)...)
		for name, lines := range want {
			expect(t, diamond(), mods, name, lines...)
		}
		slices.Reverse(mods)
		for name, lines := range want {
			expect(t, diamond(), mods, name, lines...)
		}
	}
}

// TestFlowByAnImport: what it tells, may be handed, and does.
func TestFlowByAnImport(t *testing.T) {
	b := "(module b (var s low) (var y high) (fun told () y) (fun takes (p) (set s p) 0) (fun does () (print low 1) 0))"
	for fun, want := range map[string]string{
		"(fun f () (set x (call b.told)) 0)":                 "6 f x",
		"(fun f () (call b.takes h))":                        "6 f b.takes",
		"(fun f () (if h ((set t (call b.does))) ()) 0)":     "6 f b.does",
		"(fun f () (while (call b.told) ((set x 1))) 0)":     "6 f x",
		"(fun f (p) (set h (call b.told)) (call b.takes p))": "f : low @ low = 0 low does r:b.y w:a.h w:b.s",
	} {
		mods := read(t, b, "(module a (import b) (var x low) (var h high) "+fun+")")
		expect(t, two(), mods, "a", want)
		expect(t, two(), mods, "b", "told : @ high = 0 high does r:b.y", "takes : low @ low = 0 low does w:b.s", "does : @ low = 0 low does p:low")
	}
}

// TestCycle: one that comes to itself; nothing else is told of it, be it wrong, or large, as may be.
func TestCycle(t *testing.T) {
	mods := read(t,
		"(module a (import b) (import gone) (import gone) (var x none) (fun f () (call g)))",
		"(module b (import c) (import bad) (fun f () 1))",
		"(module c (import a) (import self) (fun f () 1))",
		"(module self (import self) (fun f () 1))",
		"(module bad (fun f () (call f)))",
		"(module top (import a) (import self) (import b) (import self) (fun f () (call f)))")
	expect(t, two(), mods, "a", "8 - a")
	expect(t, two(), mods, "b", "8 - b")
	expect(t, two(), mods, "c", "8 - c")
	expect(t, two(), mods, "self", "8 - self")
	expect(t, two(), mods, "bad", "4 f f")
	expect(t, two(), mods, "top", "7 - a", "7 - b", "7 - self")
	// without c it doesn't go round any more
	without := slices.Delete(slices.Clone(mods), 2, 3)
	expect(t, two(), without, "b", "7 - bad")
	expect(t, two(), without, "a", "7 - b")
}

// TestBelow: an import that is no good, for whatever reason, and nothing else; each once, sorted.
func TestBelow(t *testing.T) {
	for _, b := range []string{
		"(module b (import gone))",
		"(module b (var x low) (var x low))",
		"(module b (var x none))",
		"(module b (fun f () (call f)))",
		"(module b (fun f (p) 1) (fun g () (call f)))",
		"(module b (var x low) (var y high) (fun f () (set x y) 0))",
		"(module b (import b))",
	} {
		mods := read(t, "(module a (import c) (import b) (import gone) (import b) (var x none) (fun f (p p) (call b.f)))", b,
			"(module c (fun f () 1))", "(module d (import a) (import c) (fun f () (call c.f)))", "(module e (import c) (fun f () (call c.f)))",
			"(module f (import d) (import b) (import a) (import e))")
		expect(t, two(), mods, "a", "7 - b")
		expect(t, two(), mods, "c", "f : @ high = 0 low does")
		expect(t, two(), mods, "d", "7 - a")
		expect(t, two(), mods, "e", "f : @ high = 0 low does")
		expect(t, two(), mods, "f", "7 - a", "7 - b", "7 - d")
	}
	// an import that is good, or no module's, is none
	expect(t, two(), read(t, "(module a (import b) (import gone) (import b))", "(module b)"), "a", "1 - gone", "2 - b")
}

// sets is a function that sets as many variables as often as that.
func sets(variables, times int) api.Fun {
	f := api.Fun{Name: "large", Result: api.Expr{Kind: api.ENumber}}
	name := func(i int) string { return "v" + string(rune('a'+i%variables/26)) + string(rune('a'+i%variables%26)) }
	for i := range times {
		f.Body = append(f.Body, api.Stmt{Kind: api.SSet, Name: name(i), E: api.Expr{Kind: api.EName, Name: name(i + 1)}})
	}
	return f
}

// withLarge reads modules; of the first one a function more is one that Infer finds too large.
func withLarge(t *testing.T, texts ...string) []api.Module {
	t.Helper()
	mods := read(t, texts...)
	mods[0].Funs = append(mods[0].Funs, sets(41, 41))
	return mods
}

// TestLarge: as many variables, and constraints, as there may be, and one more; of it, and of all that come to it.
func TestLarge(t *testing.T) {
	for what, c := range map[string]struct {
		f    api.Fun
		want api.Errno
	}{
		"40 Names":  {sets(40, 40), api.OK},
		"41 Names":  {sets(41, 41), api.ErrLarge},
		"1000 Cons": {sets(40, 1000), api.OK},
		"1001 Cons": {sets(40, 1001), api.ErrLarge},
	} {
		mods := read(t, "(module a (import b))", "(module b (import c))", "(module c)", "(module d)", "(module e (import d) (import b))")
		mods[2].Funs = []api.Fun{c.f}
		for name, want := range map[string]api.Errno{"a": c.want, "b": c.want, "c": c.want, "d": api.OK, "e": c.want} {
			expectErrno(t, what, two(), mods, name, want)
		}
	}
}

// TestLargeAndWrong: an import's error is told ahead of one that is no good, and ahead of what is wrong in the module itself;
// but an import of no module's name, or one that goes round, has none.
func TestLargeAndWrong(t *testing.T) {
	for _, imports := range []string{"(import large) (import bad)", "(import bad) (import large)", "(import bad) (import large) (import gone) (import large)"} {
		mods := withLarge(t, "(module large)", "(module a "+imports+" (var x none) (fun f (p p) (call f)))", "(module bad (import gone))", "(module top (import bad) (import a))")
		expectErrno(t, imports, two(), mods, "a", api.ErrLarge)
		expectErrno(t, imports, two(), mods, "top", api.ErrLarge)
		expect(t, two(), mods, "bad", "1 - gone")
		slices.Reverse(mods)
		expectErrno(t, imports, two(), mods, "a", api.ErrLarge)
		expectErrno(t, imports, two(), mods, "top", api.ErrLarge)
	}
	// what is large itself, and imports what is no good
	mods := withLarge(t, "(module a (import bad))", "(module bad (import gone))")
	expect(t, two(), mods, "a", "7 - bad")
	// names are looked at first
	mods = withLarge(t, "(module a (var x none))", "(module b (import a))")
	expect(t, two(), mods, "a", "3 - none")
	expect(t, two(), mods, "b", "7 - a")
	// one that goes round isn't looked at further, nor is what it imports
	mods = withLarge(t, "(module a (import b))", "(module b (import a) (import c))", "(module c (import d))", "(module d)", "(module e (import b))")
	mods[3].Funs = []api.Fun{sets(41, 41)}
	expect(t, two(), mods, "a", "8 - a")
	expect(t, two(), mods, "b", "8 - b")
	expectErrno(t, "below", two(), mods, "c", api.ErrLarge)
	expect(t, two(), mods, "e", "7 - b")
	// one that isn't imported is no matter
	mods = withLarge(t, "(module large)", "(module a (fun f () 1))")
	expect(t, two(), mods, "a", "f : @ high = 0 low does")
}

// TestAllImportAll: six of them, each with what is behind it, as many functions as there may be, and commands without number.
func TestAllImportAll(t *testing.T) {
	var mods []api.Module
	for i, name := range []string{"a", "b", "c", "d", "e", "f"} {
		m := api.Module{Name: name, Vars: []api.Var{{Name: "x", Level: "low"}}}
		for _, other := range mods {
			m.Imports = append(m.Imports, other.Name)
		}
		f := sets(40, 900)
		for range 5000 {
			e := api.Expr{Kind: api.ENumber}
			if i > 0 {
				e = api.Expr{Kind: api.ECall, Name: mods[i-1].Name + ".ga"}
			}
			f.Body = append(f.Body, api.Stmt{Kind: api.SSet, Name: "x", E: e})
		}
		for k := range 8 {
			f.Name = "g" + string(rune('a'+k))
			m.Funs = append(m.Funs, f)
		}
		mods = append(mods, m)
	}
	a, e := Answer(two(), mods, "f")
	if e != api.OK || len(a.Diags) != 0 || len(a.Schemes) != 8 || len(a.Schemes[7].Effects) != 6 {
		t.Error(a, e)
	}
}
