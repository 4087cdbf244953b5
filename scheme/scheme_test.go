package scheme

import (
	"math"
	"slices"
	"strconv"
	"strings"
	"testing"

	"lowdown/api"
	"lowdown/parse"
)

// order makes a lattice of names parted by blanks; pairs, such as "a<b", are all that is below another level.
func order(levels, pairs string) api.Lattice {
	l := api.Lattice{Names: strings.Fields(levels)}
	for i := range l.Names {
		row := make([]bool, len(l.Names))
		row[i] = true
		l.Leq = append(l.Leq, row)
	}
	for _, p := range strings.Fields(pairs) {
		a, b, _ := strings.Cut(p, "<")
		l.Leq[slices.Index(l.Names, a)][slices.Index(l.Names, b)] = true
	}
	return l
}

func two() api.Lattice { return order("low high", "low<high") }

// left 0, high 1, right 2, low 3: neither end is the first one.
const left, high, right, low = 0, 1, 2, 3

func diamond() api.Lattice {
	return order("left high right low", "low<left low<right low<high left<high right<high")
}

func read(t *testing.T, s string) api.Module {
	t.Helper()
	m, at, e := parse.Parse(s)
	if e != api.OK {
		t.Fatal(s, at, e)
	}
	return m
}

// world is what Infer is handed.
type world struct {
	l       api.Lattice
	m       api.Module
	known   []api.Module
	schemes [][]api.Scheme
}

func (w world) infer() ([]api.Scheme, []api.Diag, api.Errno) {
	return Infer(w.l, w.m, w.known, w.schemes)
}

// around: items stand in a module with a variable for each level, and two imports.
func around(t *testing.T, items string) world {
	t.Helper()
	return world{
		l: diamond(),
		m: read(t, "(module m (import b) (import c) (var x low) (var y left) (var z right) (var h high) "+items+")"),
		known: []api.Module{
			read(t, "(module c (fun k (a) 1))"),
			read(t, "(module b (var v low) (fun n () 1) (fun k (a b c) 1))"),
		},
		schemes: [][]api.Scheme{
			{{Fun: "k", Result: api.Label{Mask: 1, Level: low}, Bounds: []int{low}, PC: high}},
			{
				{Fun: "n", Result: api.Label{Level: right}, PC: left, Effects: []string{"p:left"}},
				{Fun: "k", Result: api.Label{Mask: 5, Level: left}, Bounds: []int{left, right, high}, PC: right, Effects: []string{"w:b.v", "r:b.v"}},
			},
		},
	}
}

// line tells a scheme: "f : BOUND .. @ PC = MASK LEVEL does EFFECT ..".
func line(l api.Lattice, s api.Scheme) string {
	words := []string{s.Fun, ":"}
	for _, bound := range s.Bounds {
		words = append(words, l.Names[bound])
	}
	words = append(words, "@", l.Names[s.PC], "=", strconv.Itoa(s.Result.Mask), l.Names[s.Result.Level], "does")
	return strings.Join(append(words, s.Effects...), " ")
}

func lines(l api.Lattice, schemes []api.Scheme) []string {
	var out []string
	for _, s := range schemes {
		out = append(out, line(l, s))
	}
	return out
}

func expect(t *testing.T, items string, want ...string) {
	t.Helper()
	w := around(t, items)
	s, d, e := w.infer()
	if got := lines(w.l, s); e != api.OK || len(d) != 0 || !slices.Equal(got, want) {
		t.Errorf("%s: %d %v\n%s\nwant\n%s", items, e, d, strings.Join(got, "\n"), strings.Join(want, "\n"))
	}
}

// expectWrong: each of want is "CODE FUN NAME", of no function "CODE - NAME".
func expectWrong(t *testing.T, w world, want ...string) {
	t.Helper()
	s, d, e := w.infer()
	var got []string
	for _, diag := range d {
		fun := diag.Fun
		if fun == "" {
			fun = "-"
		}
		got = append(got, strconv.Itoa(diag.Code)+" "+fun+" "+diag.Name)
	}
	if e != api.OK || len(s) != 0 || !slices.Equal(got, want) {
		t.Errorf("%v: %d %v\n%q\nwant\n%q", w.m.Funs, e, s, got, want)
	}
}

func expectErrno(t *testing.T, what string, w world, want api.Errno) {
	t.Helper()
	s, d, e := w.infer()
	if e != want {
		t.Errorf("%s: %d; want %d", what, e, want)
	}
	if e != api.OK && (s != nil || d != nil) {
		t.Errorf("%s: %d, and all the same %v %v", what, e, s, d)
	}
}

func TestResult(t *testing.T) {
	expect(t, "")
	expect(t, "(fun f () 1)", "f : @ high = 0 low does")
	expect(t, "(fun f (p q) q)", "f : high high @ high = 2 low does")
	expect(t, "(fun f (a b c d) (+ d (* b 1)))", "f : high high high high @ high = 10 low does")
	expect(t, "(fun f () y)", "f : @ high = 0 left does r:m.y")
	expect(t, "(fun f (p) (+ y (+ p z)))", "f : high @ high = 1 high does r:m.y r:m.z")
	// by the function's own variables, however they go round
	expect(t, "(fun f (p q) (set c b) (set b a) (set a q) c)", "f : high high @ high = 2 low does")
	expect(t, "(fun f (p q) (set a y) (set b a) (set p b) (+ p q))", "f : high high @ high = 3 left does r:m.y")
	expect(t, "(fun f (p q) (set q p) q)", "f : high high @ high = 3 low does")
	expect(t, "(fun f (p) (set a 1) (set a p) (set a 2) a)", "f : high @ high = 1 low does")
	expect(t, "(fun f () a)", "f : @ high = 0 low does")
	// by a branch, and by how often a loop goes round
	expect(t, "(fun f (p q) (if p ((set a 1)) ((set b 2))) b)", "f : high high @ high = 1 low does")
	expect(t, "(fun f (p q) (while q ((set a z))) a)", "f : high high @ high = 2 right does r:m.z")
	expect(t, "(fun f (p) (if p () ()) 7)", "f : high @ high = 0 low does")
	expect(t, "(fun f (p) (if h ((if p ((set a 1)) ())) ()) a)", "f : high @ high = 1 high does r:m.h")
}

// TestBounds: a Param may be as high as all that it goes to.
func TestBounds(t *testing.T) {
	expect(t, "(fun f (p q) (set y p) 0)", "f : left high @ left = 0 low does w:m.y")
	expect(t, "(fun f (p q) (set y p) (set h q) 0)", "f : left high @ left = 0 low does w:m.h w:m.y")
	expect(t, "(fun f (p q) (set y p) (set z q) 0)", "f : left right @ low = 0 low does w:m.y w:m.z")
	expect(t, "(fun f (p) (set y p) (set z p) 0)", "f : low @ low = 0 low does w:m.y w:m.z")
	expect(t, "(fun f (p) (set h p) (print right p) p)", "f : right @ right = 1 low does p:right w:m.h")
	expect(t, "(fun f (p q) (print left (+ p q)) 0)", "f : left left @ left = 0 low does p:left")
	expect(t, "(fun f (a b c d) (set h a) (set z b) (set y c) (set x d) 0)", "f : high right left low @ low = 0 low does w:m.h w:m.x w:m.y w:m.z")
	// by a branch, and by the function's own variables
	expect(t, "(fun f (p q) (if p ((set y 1)) ((print high q))) 0)", "f : left high @ left = 0 low does p:high w:m.y")
	expect(t, "(fun f (p q) (while p ((set t q))) (set z t) t)", "f : right right @ right = 3 low does w:m.z")
	// a variable is one thing all over the function, whichever command is ahead
	expect(t, "(fun f (p) (set y t) (set t p) 0)", "f : left @ left = 0 low does w:m.y")
	// what is as high as what it goes to may go there
	expect(t, "(fun f (p) (set y (+ y p)) (if z ((set z p)) ()) (set h (+ y z)) 0)", "f : low @ low = 0 low does r:m.y r:m.z w:m.h w:m.y w:m.z")
}

func TestWhereItIsCalled(t *testing.T) {
	expect(t, "(fun f () (set h 1) 0)", "f : @ high = 0 low does w:m.h")
	expect(t, "(fun f () (print right 1) (set h 1) 0)", "f : @ right = 0 low does p:right w:m.h")
	expect(t, "(fun f () (if 1 ((set y 1)) ((set z 2))) 0)", "f : @ low = 0 low does w:m.y w:m.z")
	expect(t, "(fun f () (if 0 ((print low 1)) ()) 0)", "f : @ low = 0 low does p:low")
	// what is read, and what is the function's own, may be so anywhere
	expect(t, "(fun f (p) (set a x) (set p a) x)", "f : high @ high = 0 low does r:m.x")
}

func TestCalls(t *testing.T) {
	// of functions ahead, by what was found of these
	expect(t, "(fun g (a b) (set y b) a) (fun f (p q) (call g p q))",
		"g : high left @ left = 1 low does w:m.y",
		"f : high left @ left = 1 low does w:m.y")
	expect(t, "(fun g (a b) (set y b) a) (fun f (p q) (call g q 1)) (fun e (p) (call f 3 (call g p p)))",
		"g : high left @ left = 1 low does w:m.y",
		"f : high high @ left = 2 low does w:m.y",
		"e : left @ left = 1 low does w:m.y")
	expect(t, "(fun n () h) (fun f (p) (+ p (call n)))",
		"n : @ high = 0 high does r:m.h",
		"f : high @ high = 1 high does r:m.h")
	// where it is called, is what is around
	expect(t, "(fun g () (set z 1) 0) (fun f (p) (if p ((set a (call g))) ()) 0)",
		"g : @ right = 0 low does w:m.z",
		"f : right @ right = 0 low does w:m.z")
	expect(t, "(fun g (a) (set z 1) a) (fun f (p q) (while (call g p) ()) q)",
		"g : high @ right = 1 low does w:m.z",
		"f : right high @ right = 2 low does w:m.z")
	// of modules, by what is handed in: an Arg's Bound says nothing of where it is called
	expect(t, "(fun f (p) (call c.k p))", "f : low @ high = 1 low does")
	expect(t, "(fun f () (+ 1 (call b.n)))", "f : @ left = 0 right does p:left")
	expect(t, "(fun f (p q r) (call b.k p q r))", "f : left right high @ right = 5 left does r:b.v w:b.v")
	expect(t, "(fun f (p) (call b.k 1 p (call c.k 2)))", "f : right @ right = 0 left does r:b.v w:b.v")
	expect(t, "(fun f (p) (+ (call b.n) (call b.k y z p)))", "f : high @ low = 1 high does p:left r:b.v r:m.y r:m.z w:b.v")
}

// TestFlows: what is higher goes to what is lower, or to what is beside it.
func TestFlows(t *testing.T) {
	for items, want := range map[string]string{
		"(fun f () (set x y) 0)":                                           "6 f x",
		"(fun f () (set y z) 0)":                                           "6 f y",
		"(fun f () (set z y) 0)":                                           "6 f z",
		"(fun f () (set y h) 0)":                                           "6 f y",
		"(fun f () (print low h) 0)":                                       "6 f low",
		"(fun f () (print right (+ y z)) 0)":                               "6 f right",
		"(fun f () (if z ((set x 1)) ()) 0)":                               "6 f x",
		"(fun f () (if z () ((print left 1))) 0)":                          "6 f left",
		"(fun f () (while h ((set z 1))) 0)":                               "6 f z",
		"(fun f () (if y ((if 1 ((set z 1)) ())) ()) 0)":                   "6 f z",
		"(fun f () (set x t) (set t y) 0)":                                 "6 f x",
		"(fun f () (if y ((set t 1)) ()) (set x t) 0)":                     "6 f x",
		"(fun f (p) (set t (+ p y)) (set x t) 0)":                          "6 f x",
		"(fun f (p) (set p h) (set y p) 0)":                                "6 f y",
		"(fun f () (call c.k y))":                                          "6 f c.k",
		"(fun f () (call b.k 1 y 1))":                                      "6 f b.k",
		"(fun f () (if z ((set t (call b.n))) ()) 0)":                      "6 f b.n",
		"(fun f () (while (+ (call b.n) z) ()) 0)":                         "6 f b.n",
		"(fun f () (while (call b.n) ()) 0)":                               "6 f b.n",
		"(fun f () (set x (call b.n)) 0)":                                  "6 f x",
		"(fun f () (set z (call b.k 1 2 3)) 0)":                            "6 f z",
		"(fun g (a) (set y a) 0) (fun f () (call g z))":                    "6 f g",
		"(fun g () (set y 1) 0) (fun f () (if h ((set a (call g))) ()) 0)": "6 f g",
		"(fun g () z) (fun f () (set y (call g)) 0)":                       "6 f y",
	} {
		expectWrong(t, around(t, items), want)
	}
	// what isn't told of an Arg isn't told by the call
	expect(t, "(fun g (a b) a) (fun f () (set x (call g 1 h)) 0)",
		"g : high high @ high = 1 low does", "f : @ low = 0 low does r:m.h w:m.x")
}

// TestManyFlows: sorted, each once, of all functions, and no scheme of any.
func TestManyFlows(t *testing.T) {
	expectWrong(t, around(t, "(fun f () (print low h) (set y h) (set x y) (set x h) (print left z) (set h y) 0)"),
		"6 f left", "6 f low", "6 f x", "6 f y")
	expectWrong(t, around(t, "(fun g () (set x h) 0) (fun good () 1) (fun f () (set y h) (set x h) 0) (fun e () (set x z) 0)"),
		"6 e x", "6 f x", "6 f y", "6 g x")
	expectWrong(t, around(t, "(fun f () (+ (call c.k h) (+ (call b.k z 1 1) (call c.k y))))"), "6 f b.k", "6 f c.k")
	// one that calls what is no good is looked at by that one's scheme
	expectWrong(t, around(t, "(fun g (a) (set x h) (set y a) h) (fun f (p) (call g p))"), "6 g x")
	expectWrong(t, around(t, "(fun g (a) (set x h) (set y a) h) (fun f () (set z (call g z)) 0)"), "6 f g", "6 f z", "6 g x")
	expectWrong(t, around(t, "(fun g () (set x h) 0) (fun f () (if y ((set a (call g))) ()) 0)"), "6 f g", "6 g x")
}

// TestNamesFirst: names.Check's diagnostics alone, be there flows or not, and whatever schemes is.
func TestNamesFirst(t *testing.T) {
	items := "(import gone) (var x none) (fun g () (set x h) (call f)) (fun f (p p) (print top h) (set x (call g 1)) (call b.none))"
	w := around(t, items)
	want := []string{"1 - gone", "2 - x", "3 - none", "2 f p", "3 f top", "4 f b.none", "5 f g", "4 g f"}
	expectWrong(t, w, want...)
	w.schemes = nil
	expectWrong(t, w, want...)
	w = around(t, "(fun f () (set x h) (call f))")
	expectWrong(t, w, "4 f f")
	// of a function that is too large as well
	w.m.Funs = append(w.m.Funs, sets(41, 1))
	expectWrong(t, w, "4 f f")
}

// TestErrors: names.Check's, in its order, ahead of all else.
func TestErrors(t *testing.T) {
	large := api.Module{Name: "b", Vars: make([]api.Var, 9)}
	for what, c := range map[string]struct {
		change func(w *world)
		want   api.Errno
	}{
		"no level":         {func(w *world) { w.l, w.m = api.Lattice{}, large }, api.ErrArg},
		"many levels":      {func(w *world) { w.l.Names = strings.Fields("a b c d e f g"); w.m = api.Module{} }, api.ErrLarge},
		"no lattice":       {func(w *world) { w.l.Leq = w.l.Leq[1:]; w.m = large }, api.ErrForm},
		"two ends":         {func(w *world) { w.l = order("a b", "") }, api.ErrForm},
		"large m":          {func(w *world) { w.m = large; w.known[0].Name = "" }, api.ErrLarge},
		"no m":             {func(w *world) { w.m = api.Module{}; w.known[0] = large }, api.ErrForm},
		"large known":      {func(w *world) { w.m.Imports = []string{"gone"}; w.known[1] = large }, api.ErrLarge},
		"no known":         {func(w *world) { w.known[1] = api.Module{}; w.schemes = nil }, api.ErrForm},
		"no such command":  {func(w *world) { w.m.Funs[0].Body = make([]api.Stmt, 1) }, api.ErrForm},
		"no result":        {func(w *world) { w.m.Funs[0].Result = api.Expr{} }, api.ErrForm},
		"nothing is wrong": {func(w *world) {}, api.OK},
	} {
		w := around(t, "(fun f (p) (call b.k p 1 1))")
		c.change(&w)
		expectErrno(t, what, w, c.want)
	}
}

// TestWrongSchemes: flow.Of's error of what is handed in, be it called or not.
func TestWrongSchemes(t *testing.T) {
	scheme := func(change func(s *api.Scheme)) func(w *world) {
		return func(w *world) { change(&w.schemes[1][1]) }
	}
	changes := []func(w *world){
		func(w *world) { w.schemes = nil },
		func(w *world) { w.schemes = w.schemes[:1] },
		func(w *world) { w.schemes = append(w.schemes, nil) },
		func(w *world) { w.schemes[0] = nil },
		func(w *world) { w.schemes[1] = append(w.schemes[1], api.Scheme{}) },
		func(w *world) { w.known = append(w.known, w.known[0]) },
		scheme(func(s *api.Scheme) { s.Bounds = s.Bounds[1:] }),
		scheme(func(s *api.Scheme) { s.Bounds = append(s.Bounds, low) }),
		scheme(func(s *api.Scheme) { s.Effects[1] = "" }),
	}
	for _, wrong := range []int{math.MinInt, -1, 4, math.MaxInt} {
		changes = append(changes,
			scheme(func(s *api.Scheme) { s.Bounds[2] = wrong }),
			scheme(func(s *api.Scheme) { s.PC = wrong }),
			scheme(func(s *api.Scheme) { s.Result.Level = wrong }))
	}
	for _, wrong := range []int{math.MinInt, -1, 16, math.MaxInt} {
		changes = append(changes, scheme(func(s *api.Scheme) { s.Result.Mask = wrong }))
	}
	for i, change := range changes {
		for _, items := range []string{"(fun f () 1)", "(fun f () (call b.k 1 2 3))", "(fun f () (set x h) 0)"} {
			w := around(t, items)
			change(&w)
			expectErrno(t, "wrong "+strconv.Itoa(i)+" "+items, w, api.ErrArg)
			// ahead of what is large
			w.m.Funs = []api.Fun{sets(41, 1001)}
			expectErrno(t, "wrong and large "+strconv.Itoa(i), w, api.ErrArg)
		}
		// of no function nothing is asked
		w := around(t, "")
		change(&w)
		expectErrno(t, "no function "+strconv.Itoa(i), w, api.OK)
	}
}

func TestOneLevel(t *testing.T) {
	w := world{l: order("a", ""), m: read(t, "(module m (var x a) (fun f (p) (if x ((set x p)) ((print a x))) (+ x p)))")}
	s, d, e := w.infer()
	if got := lines(w.l, s); e != api.OK || len(d) != 0 || !slices.Equal(got, []string{"f : a @ a = 1 a does p:a r:m.x w:m.x"}) {
		t.Error(got, d, e)
	}
}

func name(s string) api.Expr { return api.Expr{Kind: api.EName, Name: s} }

// word makes the names of many variables.
func word(i int) string {
	s := "v"
	for range 5 {
		s += string(rune('a' + i%26))
		i /= 26
	}
	return s
}

// sets is a function without Params that sets as many variables as often as that.
func sets(variables, times int) api.Fun {
	f := api.Fun{Name: "large", Result: api.Expr{Kind: api.ENumber}}
	for i := range times {
		f.Body = append(f.Body, api.Stmt{Kind: api.SSet, Name: word(i % variables), E: name(word((i + 1) % variables))})
	}
	return f
}

// TestLarge: as many variables, and constraints, as there may be, and one more.
func TestLarge(t *testing.T) {
	params := []string{"p", "q", "r"}
	for what, c := range map[string]struct {
		f    api.Fun
		more []string
		want api.Errno
	}{
		"40 Names":                 {sets(40, 40), nil, api.OK},
		"41 Names":                 {sets(41, 41), nil, api.ErrLarge},
		"41 Names, 40 set":         {sets(41, 40), nil, api.ErrLarge},
		"37 Names and 3 Params":    {sets(37, 37), params, api.OK},
		"38 Names and 3 Params":    {sets(38, 38), params, api.ErrLarge},
		"1000 Cons":                {sets(40, 1000), nil, api.OK},
		"1001 Cons":                {sets(40, 1001), nil, api.ErrLarge},
		"997 Cons and 3 Params":    {sets(7, 997), params, api.OK},
		"998 Cons and 3 Params":    {sets(7, 998), params, api.ErrLarge},
		"more than enough of both": {sets(3000, 3000), params, api.ErrLarge},
	} {
		c.f.Params = c.more
		w := around(t, "(fun f () 1)")
		w.m.Funs = append(w.m.Funs, c.f)
		expectErrno(t, what, w, c.want)
		// ahead of what is wrong in those ahead of it
		w = around(t, "(fun f () (set x h) 0)")
		w.m.Funs = append(w.m.Funs, c.f)
		if expectErrno(t, what+", and a flow", w, c.want); c.want == api.OK {
			expectWrong(t, w, "6 f x")
		}
	}
}

// TestSinksHaveNoBound: nor have what is read, or where the module's own variables are set.
func TestSinksHaveNoBound(t *testing.T) {
	const n = 20000
	f := api.Fun{Name: "f", Params: []string{"p"}, Result: name("p")}
	for i := range n {
		e := api.Expr{Kind: api.EOp, Name: "+", Args: []api.Expr{name("p"), name(word(i % 39))}}
		f.Body = append(f.Body, api.Stmt{Kind: api.SSet, Name: "y", E: e})
	}
	w := around(t, "")
	w.m.Funs = []api.Fun{f}
	s, d, e := w.infer()
	if got := lines(w.l, s); e != api.OK || len(d) != 0 || !slices.Equal(got, []string{"f : left @ left = 1 low does w:m.y"}) {
		t.Error(got, d, e)
	}
}

// many is a sum of as many variables as brackets let there be.
func many(depth int, next *int) api.Expr {
	if depth == 0 {
		*next++
		return name(word(*next))
	}
	return api.Expr{Kind: api.EOp, Name: "+", Args: []api.Expr{many(depth-1, next), many(depth-1, next)}}
}

// TestFarTooLarge: a function whose problem, if it were written down, would need all the memory that there is.
func TestFarTooLarge(t *testing.T) {
	next := 0
	loop := api.Stmt{Kind: api.SWhile, E: many(16, &next), A: slices.Repeat([]api.Stmt{{Kind: api.SSet, Name: "a", E: name("b")}}, 1<<17)}
	w := around(t, "")
	w.m.Funs = []api.Fun{{Name: "f", Body: []api.Stmt{loop}, Result: name("a")}}
	expectErrno(t, "far too large", w, api.ErrLarge)
}
