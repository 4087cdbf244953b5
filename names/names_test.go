package names

import (
	"math"
	"reflect"
	"slices"
	"sort"
	"strings"
	"testing"

	"lowdown/api"
	"lowdown/parse"
	"lowdown/tree"
)

func two() api.Lattice {
	return api.Lattice{Names: []string{"low", "high"}, Leq: [][]bool{{true, true}, {false, true}}}
}

func read(t *testing.T, s string) api.Module {
	t.Helper()
	m, at, e := parse.Parse(s)
	if e != api.OK {
		t.Fatal(s, at, e)
	}
	return m
}

func readAll(t *testing.T, texts ...string) []api.Module {
	t.Helper()
	var out []api.Module
	for _, s := range texts {
		out = append(out, read(t, s))
	}
	return out
}

type aim struct {
	at, fun int
	ok      bool
}

func expectTarget(t *testing.T, m api.Module, k int, call string, known []api.Module, want aim) {
	t.Helper()
	at, fun, ok := Target(m, k, call, known)
	if got := (aim{at, fun, ok}); got != want {
		t.Errorf("Target(%s, %d, %q) = %v; want %v", m.Name, k, call, got, want)
	}
}

// TestTargetAhead: P9, of names without a dot.
func TestTargetAhead(t *testing.T) {
	m := read(t, "(module m (import f) (var v low) (fun f () 1) (fun g (p) p) (fun f (a b) a) (fun h () 1) (fun m () 1) (fun v () 1))")
	known := readAll(t, "(module f (fun z () 1) (fun g () 1) (fun h () 1))")
	for k, want := range []int{-1, 0, 0, 0, 0, 0, 0} {
		if want < 0 {
			expectTarget(t, m, k, "f", known, aim{})
		} else {
			expectTarget(t, m, k, "f", known, aim{-1, want, true})
		}
	}
	expectTarget(t, m, 0, "g", known, aim{})
	expectTarget(t, m, 1, "g", known, aim{})
	expectTarget(t, m, 2, "g", known, aim{-1, 1, true})
	expectTarget(t, m, 5, "g", known, aim{-1, 1, true})
	expectTarget(t, m, 3, "h", known, aim{})
	expectTarget(t, m, 4, "h", nil, aim{-1, 3, true})
	expectTarget(t, m, 4, "m", known, aim{})
	expectTarget(t, m, 5, "m", known, aim{-1, 4, true})
	expectTarget(t, m, 5, "v", known, aim{})
	expectTarget(t, m, 5, "z", known, aim{})
	expectTarget(t, m, 5, "p", known, aim{})
	expectTarget(t, m, 5, "fg", known, aim{})
	expectTarget(t, m, 5, "F", known, aim{})
}

// TestTargetInModule: P9, of names with a dot.
func TestTargetInModule(t *testing.T) {
	m := read(t, "(module m (import b) (import c) (import gone) (import m) (import b) (fun f () 1) (fun g () 1) (fun z () 1))")
	known := readAll(t,
		"(module d (fun f () 1))",
		"(module c (fun k () 1) (fun f () 1))",
		"(module b (fun h () 1) (fun g () 1) (fun g (p) p) (fun f () 1))",
		"(module b (fun x () 1))",
		"(module m (fun y () 1) (fun f () 1))",
		"(module c)",
	)
	for k := range m.Funs {
		expectTarget(t, m, k, "b.h", known, aim{2, 0, true})
		expectTarget(t, m, k, "b.g", known, aim{2, 1, true})
		expectTarget(t, m, k, "b.f", known, aim{2, 3, true})
		expectTarget(t, m, k, "c.k", known, aim{1, 0, true})
		expectTarget(t, m, k, "c.f", known, aim{1, 1, true})
		// Of two so named the first one counts, be the function in the other or not.
		expectTarget(t, m, k, "b.x", known, aim{})
		expectTarget(t, m, k, "d.f", known, aim{}) // not imported
		expectTarget(t, m, k, "gone.f", known, aim{})
		expectTarget(t, m, k, "b.z", known, aim{}) // m's own
		expectTarget(t, m, k, "b.b", known, aim{})
		expectTarget(t, m, k, "m.f", known, aim{4, 1, true})
		expectTarget(t, m, k, "m.z", known, aim{})
		expectTarget(t, m, k, "m.f", known[:4], aim{})
		expectTarget(t, m, k, "b.f", nil, aim{})
		expectTarget(t, m, k, "b.x", known[3:], aim{0, 0, true})
	}
	alone := read(t, "(module m (fun f () 1) (fun g () 1))")
	expectTarget(t, alone, 1, "m.f", known, aim{})
	expectTarget(t, alone, 1, "b.f", known, aim{})
	expectTarget(t, alone, 1, "f", known, aim{-1, 0, true})
}

// TestTargetOfAnything: P1.
func TestTargetOfAnything(t *testing.T) {
	m := read(t, "(module m (import b) (fun f () 1) (fun g () 1))")
	known := readAll(t, "(module b (fun f () 1))")
	for _, call := range []string{"", ".", "..", "b.", ".f", "b..f", "b.f.f", "b f", "f.", "\x00", "\xff", "b.f ", "F", "+"} {
		for k := range m.Funs {
			expectTarget(t, m, k, call, known, aim{})
		}
	}
	for _, k := range []int{math.MinInt, -1, 2, 3, math.MaxInt} {
		Target(m, k, "f", known)
		Target(m, k, "b.f", known)
		Target(api.Module{}, k, "f", known)
		Target(api.Module{}, k, "", []api.Module{{}, {}})
	}
}

func expectDiags(t *testing.T, l api.Lattice, m api.Module, known []api.Module, want ...api.Diag) {
	t.Helper()
	got, e := Check(l, m, known)
	if e != api.OK || !slices.Equal(got, want) {
		text, _ := tree.Print(m)
		t.Errorf("Check(%s) = %v, %d; want %v", text, got, e, want)
	}
}

func expectOf(t *testing.T, text string, known []api.Module, want ...api.Diag) {
	t.Helper()
	expectDiags(t, two(), read(t, text), known, want...)
}

func diag(code int, fun, name string) api.Diag {
	return api.Diag{Code: code, Fun: fun, Name: name}
}

func TestNothingWrong(t *testing.T) {
	known := readAll(t, "(module b (fun g (p q) p) (fun h () 1))", "(module c (import nowhere) (var x nolevel) (fun f (p p) (call f)) (fun f () 1))")
	for _, s := range []string{
		"(module m)",
		"(module m (import b) (import c))",
		"(module m (var x low) (var y high) (fun f (p q) (print low x) (print high p) (set z w) z))",
		"(module m (fun f () 1) (fun g (p) (call f)) (fun h () (call g (call f))))",
		"(module m (import b) (fun f () (call b.g (call b.h) 2)))",
		// a name may be in several lists, once in each
		"(module m (import b) (var b low) (fun b (b) b) (fun m (m) (set b m) (call b m)) (fun low () (call m 1)))",
		"(module m (fun f (p) p) (fun g (p) p))",
	} {
		expectOf(t, s, known)
	}
}

func TestImports(t *testing.T) {
	known := readAll(t, "(module b)", "(module m)")
	expectOf(t, "(module m (import z) (import b) (import a))", known, diag(api.DImport, "", "a"), diag(api.DImport, "", "z"))
	expectOf(t, "(module m (import m))", known, diag(api.DImport, "", "m"))
	expectOf(t, "(module m (import m))", nil, diag(api.DImport, "", "m"))
	expectOf(t, "(module m (import b))", nil, diag(api.DImport, "", "b"))
	expectOf(t, "(module n (import m))", known)
	expectOf(t, "(module m (import c) (import c))", known, diag(api.DImport, "", "c"), diag(api.DTwice, "", "c"))
	expectOf(t, "(module m (import be))", known, diag(api.DImport, "", "be"))
}

func TestTwice(t *testing.T) {
	known := readAll(t, "(module b)", "(module c)")
	expectOf(t, "(module m (import b) (import c) (import b))", known, diag(api.DTwice, "", "b"))
	expectOf(t, "(module m (import b) (import b) (import b) (import b))", known, diag(api.DTwice, "", "b"))
	expectOf(t, "(module m (var y low) (var x low) (var y high) (var x low))", nil, diag(api.DTwice, "", "x"), diag(api.DTwice, "", "y"))
	expectOf(t, "(module m (fun f () 1) (fun g () 1) (fun f (p) 2))", nil, diag(api.DTwice, "", "f"))
	expectOf(t, "(module m (fun f (p q p q) 1))", nil, diag(api.DTwice, "f", "p"), diag(api.DTwice, "f", "q"))
	expectOf(t, "(module m (fun f (p p p p) 1))", nil, diag(api.DTwice, "f", "p"))
	expectOf(t, "(module m (fun g (p p) 1) (fun f (p p) 1))", nil, diag(api.DTwice, "f", "p"), diag(api.DTwice, "g", "p"))
	// one name in two lists, twice in each: it is told once, as nothing says in which
	expectOf(t, "(module m (import b) (import b) (var b low) (var b low) (fun b (b b) 1) (fun b (b b) 1))", known, diag(api.DTwice, "", "b"), diag(api.DTwice, "b", "b"))
	expectOf(t, "(module m (import b) (var b low) (fun b () 1) (var c low) (fun c () 1))", known)
}

func TestLevels(t *testing.T) {
	expectOf(t, "(module m (var x up) (var y low) (var z mid) (var w up))", nil, diag(api.DLevel, "", "mid"), diag(api.DLevel, "", "up"))
	expectOf(t, "(module m (fun f () (print a 1) (print low 1) 0) (fun g () (print b 1) (print a 2) 0))", nil,
		diag(api.DLevel, "f", "a"), diag(api.DLevel, "g", "a"), diag(api.DLevel, "g", "b"))
	expectOf(t, "(module m (fun f () (if 1 ((print a 1)) ((while 1 ((print b 1) (if 1 () ((print c 1))))))) (while 1 ((print d 1))) 0))", nil,
		diag(api.DLevel, "f", "a"), diag(api.DLevel, "f", "b"), diag(api.DLevel, "f", "c"), diag(api.DLevel, "f", "d"))
	// what is set is no level, nor what is called or told
	expectOf(t, "(module m (fun up () (set nolevel other) 0))", nil)
	one := api.Lattice{Names: []string{"x"}, Leq: [][]bool{{true}}}
	expectDiags(t, one, read(t, "(module m (var x x) (var y low) (fun f () (print x 1) (print low 1) 0))"), nil, diag(api.DLevel, "", "low"), diag(api.DLevel, "f", "low"))
}

func TestCalls(t *testing.T) {
	known := readAll(t, "(module b (fun g (p) p) (fun h () 1) (fun g () 1))", "(module c (fun g () 1))", "(module b (fun i () 1))")
	expectOf(t, "(module m (fun f () (call f)))", nil, diag(api.DFun, "f", "f"))
	expectOf(t, "(module m (fun f () (call g)) (fun g () (call f)))", nil, diag(api.DFun, "f", "g"))
	expectOf(t, "(module m (fun f () 1) (fun g () (call f 1)) (fun h () (call g 1 2 3 4)))", nil, diag(api.DArgs, "g", "f"), diag(api.DArgs, "h", "g"))
	expectOf(t, "(module m (fun f (a b c d) 1) (fun g () (call f 1 2 3)) (fun h () (call f 1 2 3 4)))", nil, diag(api.DArgs, "g", "f"))
	expectOf(t, "(module m (import b) (fun f () (+ (call b.g) (+ (call b.h 1) (call b.g 1)))))", known, diag(api.DArgs, "f", "b.g"), diag(api.DArgs, "f", "b.h"))
	expectOf(t, "(module m (import b) (fun f () (+ (call b.i) (+ (call c.g) (call m.f)))))", known,
		diag(api.DFun, "f", "b.i"), diag(api.DFun, "f", "c.g"), diag(api.DFun, "f", "m.f"))
	expectOf(t, "(module m (import b) (fun f () (call h)))", known, diag(api.DFun, "f", "h"))
	// of two functions of one name the first one counts
	expectOf(t, "(module m (fun f (p) p) (fun f () 1) (fun g () (call f)) (fun h () (call f 1)))", nil, diag(api.DTwice, "", "f"), diag(api.DArgs, "g", "f"))
	expectOf(t, "(module m (fun f (p) p) (fun f () (call f)))", nil, diag(api.DTwice, "", "f"), diag(api.DArgs, "f", "f"))
	expectOf(t, "(module m (fun f () (call f)) (fun f () (call f 1)))", nil, diag(api.DTwice, "", "f"), diag(api.DFun, "f", "f"), diag(api.DArgs, "f", "f"))
	// an import of no module: each call in it means none
	expectOf(t, "(module m (import d) (fun f () (call d.g)))", known, diag(api.DImport, "", "d"), diag(api.DFun, "f", "d.g"))
	// one that is the module's own Name is wrong, but P9 takes it for known's
	itself := readAll(t, "(module m (fun x (p) p))")
	expectOf(t, "(module m (import m) (fun f () (call m.x 1)) (fun g () (call m.f)) (fun h () (call m.x)))", itself,
		diag(api.DImport, "", "m"), diag(api.DFun, "g", "m.f"), diag(api.DArgs, "h", "m.x"))
}

// TestCallsEverywhere: wherever an expression stands.
func TestCallsEverywhere(t *testing.T) {
	for _, body := range []string{
		"(call z)",
		"(+ (call z) 1)",
		"(* 1 (call z))",
		"(call g (call z))",
		"(call f 1 2 3 (+ 1 (call z)))",
		"(set x (call z)) 1",
		"(print low (call z)) 1",
		"(if (call z) () ()) 1",
		"(while (call z) ()) 1",
		"(if 1 ((set x 1) (set x (call z))) ()) 1",
		"(if 1 () ((set x (< 1 (call z))))) 1",
		"(while 1 ((print high (call z)))) 1",
		"(while 1 ((if 1 () ((while 1 ((if (call z) () ()))))))) 1",
	} {
		m := "(module m (fun f (a b c d) 1) (fun g (p) p) (fun h () " + body + "))"
		expectOf(t, m, nil, diag(api.DFun, "h", "z"))
		expectOf(t, strings.Replace(m, "(call z)", "(call f)", 1), nil, diag(api.DArgs, "h", "f"))
		expectOf(t, strings.Replace(m, "(call z)", "(call g 1)", 1), nil)
	}
	// a call that means none, or doesn't fit, is looked into all the same
	expectOf(t, "(module m (fun f () 1) (fun g () (call y (call f (call z)))))", nil, diag(api.DFun, "g", "y"), diag(api.DFun, "g", "z"), diag(api.DArgs, "g", "f"))
}

func TestOrderAndOnce(t *testing.T) {
	known := readAll(t, "(module b (fun g (p) p))")
	expectOf(t, "(module m (import c) (import b) (import b) (import a) (var x zz) (var x up)"+
		" (fun z (p p) (print up (call a)) (call b.h))"+
		" (fun a (q p q p) (print up (call b.g)) (print no (call z)) (call b.g))"+
		" (fun z () (print up (call a)) (call a.h)))", known,
		diag(api.DImport, "", "a"), diag(api.DImport, "", "c"),
		diag(api.DTwice, "", "b"), diag(api.DTwice, "", "x"), diag(api.DTwice, "", "z"),
		diag(api.DLevel, "", "up"), diag(api.DLevel, "", "zz"),
		diag(api.DTwice, "a", "p"), diag(api.DTwice, "a", "q"),
		diag(api.DLevel, "a", "no"), diag(api.DLevel, "a", "up"),
		diag(api.DArgs, "a", "b.g"), diag(api.DArgs, "a", "z"),
		diag(api.DTwice, "z", "p"), diag(api.DLevel, "z", "up"),
		diag(api.DFun, "z", "a"), diag(api.DFun, "z", "a.h"), diag(api.DFun, "z", "b.h"),
		diag(api.DArgs, "z", "a"))
	// `.` is below the letters; a shorter name is ahead of one that goes on
	expectOf(t, "(module m (fun f () (+ (call ba) (+ (call b.z) (+ (call b) (call a))))))", known,
		diag(api.DFun, "f", "a"), diag(api.DFun, "f", "b"), diag(api.DFun, "f", "b.z"), diag(api.DFun, "f", "ba"))
}

func TestInOrder(t *testing.T) {
	in := []api.Diag{diag(6, "g", "a"), diag(8, "", "z"), diag(6, "f", "b"), diag(6, "g", "a"), diag(6, "f", "a.b"), diag(7, "f", "a"), diag(6, "f", "a")}
	was := slices.Clone(in)
	want := []api.Diag{diag(8, "", "z"), diag(6, "f", "a"), diag(6, "f", "a.b"), diag(6, "f", "b"), diag(7, "f", "a"), diag(6, "g", "a")}
	if got := InOrder(in); !slices.Equal(got, want) || !slices.Equal(in, was) {
		t.Error(got, in)
	}
	if got := InOrder(nil); len(got) != 0 {
		t.Error(got)
	}
}

func TestErrors(t *testing.T) {
	good := read(t, "(module m (import nowhere) (fun f () (call f)))")
	form := api.Module{Name: "M"}
	large := api.Module{Name: "m", Imports: make([]string, 9)}
	for what, c := range map[string]struct {
		l     api.Lattice
		m     api.Module
		known []api.Module
		want  api.Errno
	}{
		"no level":             {api.Lattice{}, good, nil, api.ErrArg},
		"no level, bad module": {api.Lattice{}, form, []api.Module{large}, api.ErrArg},
		"lattice's form":       {api.Lattice{Names: []string{"low"}}, large, nil, api.ErrForm},
		"too many levels":      {api.Lattice{Names: []string{"a", "b", "c", "d", "e", "f", "g"}}, form, nil, api.ErrLarge},
		"module's form":        {two(), form, nil, api.ErrForm},
		"module's size":        {two(), large, nil, api.ErrLarge},
		"module, then known":   {two(), form, []api.Module{large}, api.ErrForm},
		"size, then known":     {two(), large, []api.Module{form}, api.ErrLarge},
		"first known":          {two(), good, []api.Module{form, good, large}, api.ErrForm},
		"first known's size":   {two(), good, []api.Module{large, form}, api.ErrLarge},
		"last known":           {two(), good, []api.Module{good, good, form}, api.ErrForm},
		"nothing":              {two(), api.Module{}, nil, api.ErrForm},
		"nothing known":        {two(), good, []api.Module{{}}, api.ErrForm},
	} {
		if d, e := Check(c.l, c.m, c.known); d != nil || e != c.want {
			t.Errorf("%s: %v, %d; want nothing, %d", what, d, e, c.want)
		}
	}
}

// TestManyKnown: known has no bound of its own, and m need not be apart from it.
func TestManyKnown(t *testing.T) {
	b := read(t, "(module b (fun g () 1))")
	known := slices.Repeat([]api.Module{read(t, "(module c)")}, 5000)
	m := read(t, "(module m (import b) (fun f () (call b.g)) (fun h () (call b.f)))")
	expectDiags(t, two(), m, append(known, b), diag(api.DFun, "h", "b.f"))
	expectTarget(t, m, 0, "b.g", append(known, b, b), aim{5000, 0, true})
}

// source makes modules of all shapes, the same ones each time.
type source struct{ state uint64 }

func (r *source) below(n int) int {
	r.state = r.state*6364136223846793005 + 1442695040888963407
	return int((r.state >> 33) % uint64(n))
}

func (r *source) one(of ...string) string { return of[r.below(len(of))] }

func (r *source) name() string  { return r.one("a", "b", "c", "d") }
func (r *source) level() string { return r.one("low", "high", "low", "high", "a", "up") }

func (r *source) callee() string {
	if r.below(2) == 0 {
		return r.name()
	}
	return r.name() + "." + r.name()
}

func (r *source) expr(n int) api.Expr {
	switch k := r.below(5); {
	case n > 0 && k == 0:
		return api.Expr{Kind: api.EOp, Name: r.one("+", "-", "*", "<", "="), Args: []api.Expr{r.expr(n - 1), r.expr(n - 1)}}
	case n > 0 && k < 4:
		e := api.Expr{Kind: api.ECall, Name: r.callee()}
		for range r.below(3) {
			e.Args = append(e.Args, r.expr(n-1))
		}
		return e
	case k == 4:
		return api.Expr{Kind: api.EName, Name: r.name()}
	}
	return api.Expr{Kind: api.ENumber, N: r.below(10)}
}

func (r *source) body(n int) []api.Stmt {
	var out []api.Stmt
	for range r.below(3) {
		switch r.below(4) {
		case 0:
			out = append(out, api.Stmt{Kind: api.SSet, Name: r.name(), E: r.expr(2)})
		case 1:
			out = append(out, api.Stmt{Kind: api.SPrint, Name: r.level(), E: r.expr(2)})
		case 2:
			if n > 0 {
				out = append(out, api.Stmt{Kind: api.SIf, E: r.expr(2), A: r.body(n - 1), B: r.body(n - 1)})
			}
		case 3:
			if n > 0 {
				out = append(out, api.Stmt{Kind: api.SWhile, E: r.expr(2), A: r.body(n - 1)})
			}
		}
	}
	return out
}

func (r *source) module() api.Module {
	m := api.Module{Name: r.name()}
	for range r.below(4) {
		m.Imports = append(m.Imports, r.name())
	}
	for range r.below(3) {
		m.Vars = append(m.Vars, api.Var{Name: r.name(), Level: r.level()})
	}
	for range r.below(4) {
		f := api.Fun{Name: r.name(), Body: r.body(2), Result: r.expr(2)}
		for range r.below(3) {
			f.Params = append(f.Params, r.name())
		}
		m.Funs = append(m.Funs, f)
	}
	return m
}

func (r *source) modules() []api.Module {
	var out []api.Module
	for range r.below(5) {
		out = append(out, r.module())
	}
	return out
}

// meant is P9 once more, from behind: each later find gives way to an earlier one.
func meant(m api.Module, k int, call string, known []api.Module) aim {
	var out aim
	mod, fun, dotted := strings.Cut(call, ".")
	if !dotted {
		for i := k - 1; i >= 0; i-- {
			if m.Funs[i].Name == call {
				out = aim{-1, i, true}
			}
		}
		return out
	}
	imported := false
	for _, name := range m.Imports {
		imported = imported || name == mod
	}
	if !imported {
		return out
	}
	for at := len(known) - 1; at >= 0; at-- {
		if known[at].Name != mod {
			continue
		}
		out = aim{}
		for i := len(known[at].Funs) - 1; i >= 0; i-- {
			if known[at].Funs[i].Name == fun {
				out = aim{at, i, true}
			}
		}
	}
	return out
}

// parts are all the commands and expressions of a function, in one heap.
func parts(f api.Fun) ([]api.Stmt, []api.Expr) {
	todo := slices.Clone(f.Body)
	asks := []api.Expr{f.Result}
	for i := 0; i < len(todo); i++ {
		asks = append(asks, todo[i].E)
		todo = append(append(todo, todo[i].A...), todo[i].B...)
	}
	for i := 0; i < len(asks); i++ {
		asks = append(asks, asks[i].Args...)
	}
	return todo, asks
}

// wrongs is P10 once more, as a set.
func wrongs(l api.Lattice, m api.Module, known []api.Module) []api.Diag {
	set := map[api.Diag]int{}
	inside := map[string]bool{}
	for _, other := range known {
		inside[other.Name] = true
	}
	levels := map[string]bool{}
	for _, name := range l.Names {
		levels[name] = true
	}
	count := func(fun string, list []string) {
		times := map[string]int{}
		for _, name := range list {
			times[name]++
		}
		for name, n := range times {
			if n > 1 {
				set[diag(api.DTwice, fun, name)] = 1
			}
		}
	}
	var vars, funs []string
	for _, name := range m.Imports {
		if name == m.Name || !inside[name] {
			set[diag(api.DImport, "", name)] = 1
		}
	}
	for _, v := range m.Vars {
		vars = append(vars, v.Name)
		if !levels[v.Level] {
			set[diag(api.DLevel, "", v.Level)] = 1
		}
	}
	for k, f := range m.Funs {
		funs = append(funs, f.Name)
		count(f.Name, f.Params)
		commands, asks := parts(f)
		for _, s := range commands {
			if s.Kind == api.SPrint && !levels[s.Name] {
				set[diag(api.DLevel, f.Name, s.Name)] = 1
			}
		}
		for _, e := range asks {
			if e.Kind != api.ECall {
				continue
			}
			to := meant(m, k, e.Name, known)
			switch {
			case !to.ok:
				set[diag(api.DFun, f.Name, e.Name)] = 1
			case to.at < 0 && len(m.Funs[to.fun].Params) != len(e.Args), to.at >= 0 && len(known[to.at].Funs[to.fun].Params) != len(e.Args):
				set[diag(api.DArgs, f.Name, e.Name)] = 1
			}
		}
	}
	count("", m.Imports)
	count("", vars)
	count("", funs)
	return sorted(set)
}

func sorted(set map[api.Diag]int) []api.Diag {
	var out []api.Diag
	for d := range set {
		out = append(out, d)
	}
	key := func(d api.Diag) string { return d.Fun + "\x00" + string(rune('0'+d.Code)) + d.Name }
	sort.Slice(out, func(i, j int) bool { return key(out[i]) < key(out[j]) })
	return out
}

func TestAgainstTheWords(t *testing.T) {
	r := source{1}
	seen := map[int]int{}
	clean := 0
	for range 4000 {
		m, known := r.module(), r.modules()
		want := wrongs(two(), m, known)
		expectDiags(t, two(), m, known, want...)
		for _, d := range want {
			seen[d.Code]++
		}
		if len(want) == 0 {
			clean++
		}
		for k := range m.Funs {
			call := r.callee()
			expectTarget(t, m, k, call, known, meant(m, k, call, known))
		}
	}
	for code := api.DImport; code <= api.DArgs; code++ {
		if seen[code] < 100 {
			t.Error("too few of", code, seen[code])
		}
	}
	if clean < 20 {
		t.Error("too few with nothing wrong:", clean)
	}
}

// roomy puts room with something in it behind the lists that Check is handed.
func roomy(m api.Module) api.Module {
	m.Imports = append(slices.Clone(m.Imports), "room", "room")[:len(m.Imports)]
	m.Vars = append(slices.Clone(m.Vars), api.Var{Name: "room"})[:len(m.Vars)]
	m.Funs = append(slices.Clone(m.Funs), api.Fun{Name: "room"})[:len(m.Funs)]
	for i, f := range m.Funs {
		m.Funs[i].Params = append(slices.Clone(f.Params), "room")[:len(f.Params)]
		m.Funs[i].Body = append(slices.Clone(f.Body), api.Stmt{Name: "room"})[:len(f.Body)]
	}
	return m
}

// rooms shows the lists up to their ends.
func rooms(m api.Module) api.Module {
	m.Imports = slices.Clone(m.Imports[:cap(m.Imports)])
	m.Vars = slices.Clone(m.Vars[:cap(m.Vars)])
	m.Funs = slices.Clone(m.Funs[:cap(m.Funs)])
	for i, f := range m.Funs {
		m.Funs[i].Params = slices.Clone(f.Params[:cap(f.Params)])
		m.Funs[i].Body = slices.Clone(f.Body[:cap(f.Body)])
	}
	return m
}

// TestNothingIsChangedOrKept: P2.
func TestNothingIsChangedOrKept(t *testing.T) {
	r := source{2}
	for range 500 {
		m, b := roomy(r.module()), roomy(r.module())
		known := append(make([]api.Module, 0, 4), b)
		mWas, bWas := rooms(m), rooms(b)
		l := two()
		first, _ := Check(l, m, known)
		want := slices.Clone(first)
		second, _ := Check(l, m, known)
		for i := range first[:cap(first)] {
			first[:cap(first)][i] = diag(9, "changed", "changed")
		}
		if !slices.Equal(second, want) {
			t.Fatal("two answers share a list")
		}
		expectDiags(t, l, m, known, want...)
		Target(m, 0, "a", known)
		if !reflect.DeepEqual(rooms(m), mWas) || !reflect.DeepEqual(rooms(known[0]), bWas) || !reflect.DeepEqual(l, two()) {
			t.Fatal("what was handed in is changed")
		}
		if !reflect.DeepEqual(known[:4][1:], make([]api.Module, 3)) {
			t.Fatal("the room behind known is changed")
		}
	}
}
