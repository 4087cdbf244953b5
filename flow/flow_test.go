package flow

import (
	"math"
	"reflect"
	"slices"
	"strconv"
	"strings"
	"testing"

	"lowdown/api"
	"lowdown/lattice"
	"lowdown/names"
	"lowdown/parse"
	"lowdown/tree"
)

// order makes a lattice of names parted by blanks; pairs, such as "a<b", are all that is below another level.
func order(levels, pairs string) api.Lattice {
	l := api.Lattice{Names: strings.Fields(levels)}
	for i := range l.Names {
		row := make([]bool, len(l.Names))
		row[i] = true
		l.Leq = append(l.Leq, row)
	}
	for _, p := range strings.Fields(pairs) {
		a, b, _ := strings.Cut(p, "<")
		l.Leq[slices.Index(l.Names, a)][slices.Index(l.Names, b)] = true
	}
	return l
}

func two() api.Lattice { return order("low high", "low<high") }

// high 0, left 1, low 2, right 3: the level below all isn't the first one.
const high, left, low, right = 0, 1, 2, 3

func diamond() api.Lattice {
	return order("high left low right", "low<left low<right low<high left<high right<high")
}

func read(t *testing.T, s string) api.Module {
	t.Helper()
	m, at, e := parse.Parse(s)
	if e != api.OK {
		t.Fatal(s, at, e)
	}
	return m
}

func readAll(t *testing.T, texts ...string) []api.Module {
	t.Helper()
	var out []api.Module
	for _, s := range texts {
		out = append(out, read(t, s))
	}
	return out
}

// hanging tells variables by their names, and a label: "p q : high", with bits "p q : 1 high".
func hanging(l api.Lattice, names []string, from []int, a api.Label) string {
	var words []string
	for _, v := range from {
		words = append(words, names[v])
	}
	words = append(words, ":")
	if a.Mask != 0 {
		words = append(words, strconv.Itoa(a.Mask))
	}
	return strings.Join(append(words, l.Names[a.Level]), " ")
}

// lines tells a problem: its Names, of each constraint "t <- p : high", of each sink "x -> low <- p : high" (of one with Effect "=>"),
// what it hangs on, "= p : low", and what it does.
func lines(l api.Lattice, p api.Problem) []string {
	out := []string{strings.Join(append([]string{"names"}, p.Names...), " ")}
	for _, c := range p.Cons {
		out = append(out, p.Names[c.To]+" <- "+hanging(l, p.Names, c.From, c.Label))
	}
	for _, s := range p.Sinks {
		arrow := " -> "
		if s.Effect {
			arrow = " => "
		}
		out = append(out, s.Name+arrow+l.Names[s.Level]+" <- "+hanging(l, p.Names, s.From, s.Label))
	}
	out = append(out, "= "+hanging(l, p.Names, p.From, p.Label))
	return append(out, strings.Join(append([]string{"does"}, p.Effects...), " "))
}

// world is what the function under test stands in: f, of p and q, is function 2 of m.
type world struct {
	l       api.Lattice
	m       api.Module
	known   []api.Module
	schemes [][]api.Scheme
	own     []api.Scheme
}

func around(t *testing.T, body string) world {
	t.Helper()
	return world{
		l: diamond(),
		m: read(t, "(module m (import b) (import c) (var x low) (var y left) (var z right) (var h high) (var q high)"+
			" (fun g (a b) a) (fun n () 1) (fun f (p q) "+body+") (fun after (p) (call f p 1)))"),
		known: readAll(t,
			"(module c (fun k (a) 1))",
			"(module b (var v low) (fun n () 1) (fun k (a b c) 1))",
			"(module b (fun k (a b c) 1) (fun n () 1))"),
		schemes: [][]api.Scheme{
			{{Fun: "k", Result: api.Label{Mask: 15, Level: low}, Bounds: []int{low}, PC: low}},
			{
				{Fun: "n", Result: api.Label{Mask: 15, Level: right}, PC: left, Effects: []string{"zz", "p:left", "zz", "\xff", "\x00"}},
				{Fun: "k", Result: api.Label{Mask: 5, Level: right}, Bounds: []int{left, right, high}, PC: left, Effects: []string{"w:b.v", "r:b.v"}},
			},
			{
				{Fun: "k", Bounds: []int{high, high, high}, Effects: []string{"never"}},
				{Fun: "n", Effects: []string{"never"}},
			},
		},
		own: []api.Scheme{
			{Fun: "g", Result: api.Label{Mask: 2, Level: low}, Bounds: []int{right, high}, PC: high, Effects: []string{"p:high"}},
			{Fun: "n", Result: api.Label{Level: left}, PC: right},
		},
	}
}

func (w world) of(k int) (api.Problem, api.Errno) {
	return Of(w.l, w.m, k, w.known, w.schemes, w.own)
}

// expect: want has all but the first lines, that of Names and the constraints of p and q, if there are just these.
func expect(t *testing.T, body string, want ...string) {
	t.Helper()
	if !strings.HasPrefix(want[0], "names") {
		want = append([]string{"names p q"}, want...)
	}
	want = slices.Insert(want, 1, "p <- : 1 low", "q <- : 2 low")
	w := around(t, body)
	p, e := w.of(2)
	if e != api.OK {
		t.Errorf("%s: %d", body, e)
		return
	}
	if got := lines(w.l, p); !slices.Equal(got, want) {
		t.Errorf("%s:\n%s\nwant\n%s", body, strings.Join(got, "\n"), strings.Join(want, "\n"))
	}
}

func TestExpressions(t *testing.T) {
	expect(t, "7", "= : low", "does")
	expect(t, "p", "= p : low", "does")
	expect(t, "x", "= : low", "does r:m.x")
	expect(t, "y", "= : left", "does r:m.y")
	expect(t, "h", "= : high", "does r:m.h")
	expect(t, "q", "= q : low", "does") // a Param hides the module's
	expect(t, "w", "names p q w", "= w : low", "does")
	expect(t, "(+ q p)", "= p q : low", "does")
	expect(t, "(- p p)", "= p : low", "does")
	expect(t, "(* 1 2)", "= : low", "does")
	expect(t, "(< y p)", "= p : left", "does r:m.y")
	expect(t, "(= y z)", "= : high", "does r:m.y r:m.z")
	expect(t, "(= z (+ x y))", "= : high", "does r:m.x r:m.y r:m.z")
	expect(t, "(+ (* w q) (- p (+ y 3)))", "names p q w", "= p q w : left", "does r:m.y")
	expect(t, "(+ (+ q w) (+ u (+ p w)))", "names p q w u", "= p q w u : low", "does")
}

func TestCalls(t *testing.T) {
	// of g the second Arg alone is told
	expect(t, "(call g p q)", "g -> right <- p : low", "g -> high <- q : low", "g => high <- : low", "= q : low", "does p:high")
	expect(t, "(call g h y)", "g -> right <- : high", "g -> high <- : left", "g => high <- : low", "= : left", "does p:high r:m.h r:m.y")
	expect(t, "(call g 1 (+ z p))", "g -> right <- : low", "g -> high <- p : right", "g => high <- : low", "= p : right", "does p:high r:m.z")
	// a bit without an Arg is nothing; what a function tells by itself is as high as its scheme says
	expect(t, "(call n)", "n => right <- : low", "= : left", "does")
	expect(t, "(call b.n)", "b.n => left <- : low", "= : right", "does \x00 p:left zz \xff")
	expect(t, "(+ (call n) (call b.n))", "n => right <- : low", "b.n => left <- : low", "= : high", "does \x00 p:left zz \xff")
	// the first and the third; the first module so named
	expect(t, "(call b.k q h p)", "b.k -> left <- q : low", "b.k -> right <- : high", "b.k -> high <- p : low", "b.k => left <- : low",
		"= p q : right", "does r:b.v r:m.h w:b.v")
	expect(t, "(call b.k 1 p y)", "b.k -> left <- : low", "b.k -> right <- p : low", "b.k -> high <- : left", "b.k => left <- : low",
		"= : high", "does r:b.v r:m.y w:b.v")
	expect(t, "(call c.k p)", "c.k -> low <- p : low", "c.k => low <- : low", "= p : low", "does")
	// what the call's other Args hang on isn't told, but what they do is
	expect(t, "(call g (call b.n) 1)", "b.n => left <- : low", "g -> right <- : right", "g -> high <- : low", "g => high <- : low",
		"= : low", "does \x00 p:high p:left zz \xff")
}

// TestCallsInCalls: the sinks of a call are behind those in its Args, and Arg by Arg.
func TestCallsInCalls(t *testing.T) {
	expect(t, "(call g (call n) (call c.k (call g p q)))",
		"n => right <- : low",
		"g -> right <- p : low", "g -> high <- q : low", "g => high <- : low",
		"c.k -> low <- q : low", "c.k => low <- : low",
		"g -> right <- : left", "g -> high <- q : low", "g => high <- : low",
		"= q : low", "does p:high")
	expect(t, "(* (+ (call n) (call g p 1)) (call c.k (+ 1 (call n))))",
		"n => right <- : low",
		"g -> right <- p : low", "g -> high <- : low", "g => high <- : low",
		"n => right <- : low",
		"c.k -> low <- : left", "c.k => low <- : low",
		"= : left", "does p:high")
}

func TestSet(t *testing.T) {
	expect(t, "(set p q) 0", "p <- q : low", "= : low", "does")
	expect(t, "(set q y) 0", "q <- : left", "= : low", "does r:m.y") // a Param hides the module's
	expect(t, "(set w p) w", "names p q w", "w <- p : low", "= w : low", "does")
	expect(t, "(set w w) 0", "names p q w", "w <- w : low", "= : low", "does")
	expect(t, "(set w 1) (set w (+ q (+ p z))) 0", "names p q w", "w <- : low", "w <- p q : right", "= : low", "does r:m.z")
	expect(t, "(set x p) 0", "x => low <- p : low", "= : low", "does w:m.x")
	expect(t, "(set h (+ x 1)) h", "h => high <- : low", "= : high", "does r:m.h r:m.x w:m.h")
	expect(t, "(set y z) (set z y) 0", "y => left <- : right", "z => right <- : left", "= : low", "does r:m.y r:m.z w:m.y w:m.z")
	// what E calls is ahead of where it goes
	expect(t, "(set z (call g p q)) 0", "g -> right <- p : low", "g -> high <- q : low", "g => high <- : low", "z => right <- q : low",
		"= : low", "does p:high w:m.z")
	expect(t, "(set w (call n)) 0", "names p q w", "w <- : left", "n => right <- : low", "= : low", "does")
	// names of functions, of modules and of levels are the function's own all the same
	expect(t, "(set g n) (set m b) low", "names p q n g b m low", "g <- n : low", "m <- b : low", "= low : low", "does")
}

func TestPrint(t *testing.T) {
	expect(t, "(print low p) 0", "low => low <- p : low", "= : low", "does p:low")
	expect(t, "(print high y) (print left 1) (print high p) 0",
		"high => high <- : left", "left => left <- : low", "high => high <- p : low", "= : low", "does p:high p:left r:m.y")
	expect(t, "(print right (call g 1 h)) 0", "g -> right <- : low", "g -> high <- : high", "g => high <- : low", "right => right <- : high",
		"= : low", "does p:high p:right r:m.h")
	expect(t, "(print low w) w", "names p q w", "low => low <- w : low", "= w : low", "does p:low")
}

func TestIf(t *testing.T) {
	expect(t, "(if p ((set w 1)) ((set u 2))) 0", "names p q w u", "w <- p : low", "u <- p : low", "= : low", "does")
	expect(t, "(if y ((set x q)) ((print low 1) (set z z))) 0",
		"x => low <- q : left", "low => low <- : left", "z => right <- : high", "= : low", "does p:low r:m.y r:m.z w:m.x w:m.z")
	// behind it, it is over
	expect(t, "(if p ((set w 1)) ()) (set w q) (set x 1) (call n)", "names p q w",
		"w <- p : low", "w <- q : low", "x => low <- : low", "n => right <- : low", "= : left", "does w:m.x")
	// one in another one; A of the inner one says nothing of B of the outer one
	expect(t, "(if p ((if q ((set w 1)) ((set w y))) (set w 3)) ((set w 4))) 0", "names p q w",
		"w <- p q : low", "w <- p q : left", "w <- p : low", "w <- p : low", "= : low", "does r:m.y")
	expect(t, "(if y ((if z ((set x 1)) ()) (set x 2)) ()) 0",
		"x => low <- : high", "x => low <- : left", "= : low", "does r:m.y r:m.z w:m.x")
	// where a call is; its Args are no higher by that, nor is what it tells, but where that goes
	expect(t, "(if q ((set w (call g p y))) ()) 0", "names p q w",
		"w <- q : left", "g -> right <- p : low", "g -> high <- : left", "g => high <- q : low", "= : low", "does p:high r:m.y")
	// what is asked is asked ahead of that
	expect(t, "(if (call c.k p) ((print high (call n))) ()) 0",
		"c.k -> low <- p : low", "c.k => low <- : low", "n => right <- p : low", "high => high <- p : left", "= : low", "does p:high")
	expect(t, "(if w () ()) 0", "names p q w", "= : low", "does")
	expect(t, "(if h () ()) 0", "= : low", "does r:m.h")
	// what is set in a branch is not what the branch hangs on further on
	expect(t, "(if p ((set p q) (set w 1)) ()) 0", "names p q w", "p <- p q : low", "w <- p : low", "= : low", "does")
}

func TestWhile(t *testing.T) {
	expect(t, "(while p ((set w q) (set p y))) 0", "names p q w", "w <- p q : low", "p <- p : left", "= : low", "does r:m.y")
	expect(t, "(while y ((print low 1))) (print low 2) 0", "low => low <- : left", "low => low <- : low", "= : low", "does p:low r:m.y")
	// what is asked, is asked again if it told so
	expect(t, "(while (call c.k p) ()) 0", "c.k -> low <- p : low", "c.k => low <- p : low", "= : low", "does")
	expect(t, "(while (+ y (call g q 1)) ((set x (call n)))) 0",
		"g -> right <- q : low", "g -> high <- : low", "g => high <- : left",
		"n => right <- : left", "x => low <- : left", "= : low", "does p:high r:m.y w:m.x")
	expect(t, "(while (* (call n) (call c.k q)) ()) 0",
		"n => right <- q : left", "c.k -> low <- q : low", "c.k => low <- q : left", "= : low", "does")
	expect(t, "(while (call g (call n) (call c.k q)) ()) 0",
		"n => right <- q : low", "c.k -> low <- q : low", "c.k => low <- q : low",
		"g -> right <- : left", "g -> high <- q : low", "g => high <- q : low", "= : low", "does p:high")
	// within others
	expect(t, "(if z ((while (call c.k p) ((while (call c.k q) ((set x 1)))))) ()) 0",
		"c.k -> low <- p : low", "c.k => low <- p : right",
		"c.k -> low <- q : low", "c.k => low <- p q : right",
		"x => low <- p q : right", "= : low", "does r:m.z w:m.x")
	expect(t, "(while p ((if (call c.k q) ((set x 1)) ((set x 2))))) 0",
		"c.k -> low <- q : low", "c.k => low <- p : low", "x => low <- p q : low", "x => low <- p q : low", "= : low", "does w:m.x")
}

// TestResult: nothing of the Body's branches is in what Result hangs on, nor in where it calls.
func TestResult(t *testing.T) {
	expect(t, "(while h ()) (if p ((set p 1)) ()) (+ (call c.k p) x)",
		"p <- p : low", "c.k -> low <- p : low", "c.k => low <- : low", "= p : low", "does r:m.h r:m.x")
}

// TestNames: P15, each name as it first stands.
func TestNames(t *testing.T) {
	for body, want := range map[string]string{
		"0":                               "",
		"(set a b) c":                     "b a c",
		"(set a (+ a b)) 0":               "a b",
		"(set a (+ b a)) 0":               "b a",
		"(+ (* d c) (- b a))":             "d c b a",
		"(call g (call c.k d) (+ c 1))":   "d c",
		"(if c ((set b a)) ((set e d)))0": "c a b d e",
		"(if 1 ((print low c) (if b () ((print low a)))) ((while e ((set d f))))) k": "c b a e f d k",
		"(while (+ b a) ((set a 1) (set d c))) b":                                    "b a c d",
		"(set x a) (set p b) (set h h) (set q q) y":                                  "a b",
		"(print high low) (print low high)high":                                      "low high",
		"(set f g) (set n n) (call n)":                                               "g f n",
		"(set a 1) (set aa 1) (set ab 1) (set b 1) (set a 2) aa":                     "a aa ab b",
	} {
		p, e := around(t, body).of(2)
		if got := strings.Join(p.Names, " "); e != api.OK || got != strings.TrimSpace("p q "+want) {
			t.Error(body, got, e, want)
		}
	}
}

// TestParams: P15, of each a bit; no Params, and as many as there may be.
func TestParams(t *testing.T) {
	m := read(t, "(module m (fun none () 1) (fun all (d c b a) (set e c) (+ a e)))")
	p, e := Of(diamond(), m, 0, nil, nil, nil)
	if want := (api.Problem{Label: api.Label{Level: low}}); e != api.OK || !same(p, want) {
		t.Error(p, e)
	}
	p, e = Of(diamond(), m, 1, nil, nil, []api.Scheme{{}})
	want := api.Problem{
		Names: []string{"d", "c", "b", "a", "e"},
		Cons: []api.Constraint{
			{To: 0, Label: api.Label{Mask: 1, Level: low}},
			{To: 1, Label: api.Label{Mask: 2, Level: low}},
			{To: 2, Label: api.Label{Mask: 4, Level: low}},
			{To: 3, Label: api.Label{Mask: 8, Level: low}},
			{To: 4, From: []int{1}, Label: api.Label{Level: low}},
		},
		From:  []int{3, 4},
		Label: api.Label{Level: low},
	}
	if e != api.OK || !same(p, want) {
		t.Error(p, e)
	}
}

// TestWhichScheme: a function of m has its scheme in own, one of known in schemes; their Fun says nothing.
func TestWhichScheme(t *testing.T) {
	w := world{
		l: two(),
		m: read(t, "(module m (import b) (fun f () 1) (fun g () 2) (fun h () (+ (call f) (+ (call g) (+ (call b.f) (call b.g))))))"),
		known: readAll(t,
			"(module m (fun f () 1) (fun g () 1))",
			"(module b (fun g () 1) (fun f () 1))",
			"(module b (fun f () 1) (fun g () 1))"),
		own: []api.Scheme{{Fun: "g", Effects: []string{"first"}}, {Fun: "f", Effects: []string{"second"}}},
		schemes: [][]api.Scheme{
			{{Effects: []string{"wrong"}}, {Effects: []string{"wrong"}}},
			{{Fun: "f", Effects: []string{"third"}}, {Fun: "f", PC: 1}},
			{{Effects: []string{"wrong"}}, {Effects: []string{"wrong"}}},
		},
	}
	p, e := w.of(2)
	want := []string{"names", "f => low <- : low", "g => low <- : low", "b.f => high <- : low", "b.g => low <- : low", "= : low", "does first second third"}
	if e != api.OK || !slices.Equal(lines(w.l, p), want) {
		t.Error(p, e)
	}
}

// same takes lists without anything for one another, be they nil or not.
func same(a, b api.Problem) bool {
	return slices.Equal(a.Names, b.Names) &&
		slices.EqualFunc(a.Cons, b.Cons, func(x, y api.Constraint) bool {
			return x.To == y.To && x.Label == y.Label && slices.Equal(x.From, y.From)
		}) &&
		slices.EqualFunc(a.Sinks, b.Sinks, func(x, y api.Sink) bool {
			return x.Label == y.Label && x.Level == y.Level && x.Name == y.Name && x.Effect == y.Effect && slices.Equal(x.From, y.From)
		}) &&
		slices.Equal(a.From, b.From) && a.Label == b.Label && slices.Equal(a.Effects, b.Effects)
}

func expectErrno(t *testing.T, what string, w world, k int, want api.Errno) {
	t.Helper()
	p, e := w.of(k)
	if e != want {
		t.Errorf("%s: %d; want %d", what, e, want)
	}
	if e != api.OK && !reflect.DeepEqual(p, api.Problem{}) {
		t.Errorf("%s: %d, and all the same %v", what, e, p)
	}
}

// TestNamesFirst: names.Check's error, then ErrForm of its diagnostics, both ahead of all that is wrong with the rest.
func TestNamesFirst(t *testing.T) {
	large := api.Module{Name: "b", Vars: make([]api.Var, 9)}
	for what, c := range map[string]struct {
		change func(w *world)
		want   api.Errno
	}{
		"no level":       {func(w *world) { w.l, w.m = api.Lattice{}, large }, api.ErrArg},
		"no lattice":     {func(w *world) { w.l.Leq = w.l.Leq[1:]; w.m = large }, api.ErrForm},
		"many levels":    {func(w *world) { w.l.Names = []string{"a", "b", "c", "d", "e", "f", "g"} }, api.ErrLarge},
		"large m":        {func(w *world) { w.m = large; w.known[0].Name = "" }, api.ErrLarge},
		"no m":           {func(w *world) { w.m = api.Module{}; w.known[0] = large }, api.ErrForm},
		"large known":    {func(w *world) { w.m.Imports = []string{"gone"}; w.known[1] = large }, api.ErrLarge},
		"no known":       {func(w *world) { w.known[2] = api.Module{} }, api.ErrForm},
		"import":         {func(w *world) { w.m.Imports[0] = "gone" }, api.ErrForm},
		"itself":         {func(w *world) { w.m.Imports = append(w.m.Imports, "m") }, api.ErrForm},
		"import twice":   {func(w *world) { w.m.Imports = append(w.m.Imports, "b") }, api.ErrForm},
		"variable twice": {func(w *world) { w.m.Vars[1].Name = "x" }, api.ErrForm},
		"function twice": {func(w *world) { w.m.Funs[3].Name = "f" }, api.ErrForm},
		"Param twice":    {func(w *world) { w.m.Funs[2].Params = []string{"p", "p"} }, api.ErrForm},
		"elsewhere":      {func(w *world) { w.m.Funs[3].Params = []string{"p", "p"} }, api.ErrForm},
		"level":          {func(w *world) { w.m.Vars[4].Level = "none" }, api.ErrForm},
		"print":          {func(w *world) { w.m.Funs[0].Body = []api.Stmt{{Kind: api.SPrint, Name: "none", E: w.m.Funs[0].Result}} }, api.ErrForm},
		"calls itself":   {func(w *world) { w.m.Funs[1].Result = api.Expr{Kind: api.ECall, Name: "n"} }, api.ErrForm},
		"too few Args":   {func(w *world) { w.m.Funs[1].Result = api.Expr{Kind: api.ECall, Name: "g"} }, api.ErrForm},
	} {
		for _, k := range []int{2, -1, 4} {
			w := around(t, "(call b.k p q 1)")
			c.change(&w)
			expectErrno(t, what, w, k, c.want)
			w.own, w.schemes = nil, nil
			expectErrno(t, what+", no schemes", w, k, c.want)
		}
	}
}

func TestWhichFunction(t *testing.T) {
	w := around(t, "(call g p q)")
	for _, k := range []int{math.MinInt, -1, 4, 5, 8, math.MaxInt} {
		expectErrno(t, "k", w, k, api.ErrArg)
		none := w
		none.own = nil
		expectErrno(t, "k, no own", none, k, api.ErrArg)
	}
	w.own = append(w.own, api.Scheme{Bounds: []int{low, low}}, api.Scheme{Bounds: []int{low}}, api.Scheme{})
	all := w.own
	for k := range 6 {
		for n := range len(all) + 1 {
			want := api.ErrArg
			if k == n && k < 4 {
				want = api.OK
			}
			w.own = all[:n]
			expectErrno(t, "function "+strconv.Itoa(k)+", schemes "+strconv.Itoa(n), w, k, want)
		}
	}
	expectErrno(t, "no function", world{l: two(), m: read(t, "(module m)")}, 0, api.ErrArg)
}

func TestAsManySchemes(t *testing.T) {
	for what, change := range map[string]func(w *world){
		"none":            func(w *world) { w.schemes = nil },
		"a list less":     func(w *world) { w.schemes = w.schemes[:2] },
		"a list more":     func(w *world) { w.schemes = append(w.schemes, nil) },
		"known more":      func(w *world) { w.known = append(w.known, w.known[0]) },
		"known less":      func(w *world) { w.known = w.known[:2] },
		"a scheme less":   func(w *world) { w.schemes[1] = w.schemes[1][:1] },
		"a scheme more":   func(w *world) { w.schemes[0] = append(w.schemes[0], api.Scheme{}) },
		"an empty list":   func(w *world) { w.schemes[2] = nil },
		"the wrong place": func(w *world) { w.schemes[0], w.schemes[1] = w.schemes[1], w.schemes[0] },
		"none of known":   func(w *world) { w.known[0].Funs = nil },
	} {
		w := around(t, "1")
		change(&w)
		expectErrno(t, what, w, 2, api.ErrArg)
	}
	w := around(t, "1")
	w.known = append(w.known, read(t, "(module d)"))
	w.schemes = append(w.schemes, nil)
	expectErrno(t, "no functions, no schemes", w, 2, api.OK)
}

// TestWrongSchemes: be they called or not, and wherever they stand.
func TestWrongSchemes(t *testing.T) {
	out := []int{math.MinInt, -1, 4, 5, 6, math.MaxInt}
	var wrong []func(s *api.Scheme)
	for _, level := range out {
		wrong = append(wrong,
			func(s *api.Scheme) { s.Result.Level = level },
			func(s *api.Scheme) { s.PC = level })
		for i := range 3 {
			wrong = append(wrong, func(s *api.Scheme) {
				if i < len(s.Bounds) {
					s.Bounds[i] = level
				} else {
					s.PC = level
				}
			})
		}
	}
	for _, mask := range []int{math.MinInt, -1, 16, 17, 32, math.MaxInt} {
		wrong = append(wrong, func(s *api.Scheme) { s.Result.Mask = mask })
	}
	wrong = append(wrong,
		func(s *api.Scheme) { s.Bounds = append(s.Bounds, low) },
		func(s *api.Scheme) { s.Bounds = make([]int, 5) },
		func(s *api.Scheme) { s.Bounds = make([]int, len(s.Bounds)^1) },
		func(s *api.Scheme) { s.Effects = []string{""} },
		func(s *api.Scheme) { s.Effects = append(s.Effects, "") },
		func(s *api.Scheme) { s.Effects = append([]string{""}, s.Effects...) },
		func(s *api.Scheme) { s.Effects = []string{"a", "", "b"} })
	for i, change := range wrong {
		for _, body := range []string{"1", "(+ (call g 1 2) (+ (call n) (+ (call b.n) (+ (call b.k 1 2 3) (call c.k 1)))))"} {
			for at := range 7 {
				w := around(t, body)
				change([]*api.Scheme{&w.own[0], &w.own[1], &w.schemes[0][0], &w.schemes[1][0], &w.schemes[1][1], &w.schemes[2][0], &w.schemes[2][1]}[at])
				expectErrno(t, "wrong "+strconv.Itoa(i)+" at "+strconv.Itoa(at), w, 2, api.ErrArg)
			}
		}
	}
}

// TestEdgesOfSchemes: what is just within.
func TestEdgesOfSchemes(t *testing.T) {
	for level := range 4 {
		for _, mask := range []int{0, 1, 8, 15} {
			w := around(t, "(call g p q)")
			for _, s := range []*api.Scheme{&w.own[0], &w.schemes[1][1]} {
				s.Result = api.Label{Mask: mask, Level: level}
				s.PC = level
				for i := range s.Bounds {
					s.Bounds[i] = level
				}
				s.Effects = []string{"\x00", " ", "\n"}
			}
			p, e := w.of(2)
			if e != api.OK || p.Label.Level != level || p.Sinks[0].Level != level || p.Sinks[2].Level != level || !slices.Equal(p.Effects, []string{"\x00", "\n", " "}) {
				t.Error(level, mask, p, e)
			}
		}
	}
}

// TestOneLevel: the least lattice there is.
func TestOneLevel(t *testing.T) {
	l := order("a", "")
	m := read(t, "(module m (var x a) (fun f (p) (if x ((set x p)) ((print a x))) x))")
	p, e := Of(l, m, 0, nil, nil, nil)
	want := []string{"names p", "p <- : 1 a", "x => a <- p : a", "a => a <- : a", "= : a", "does p:a r:m.x w:m.x"}
	if e != api.OK || !slices.Equal(lines(l, p), want) {
		t.Error(p, e)
	}
}

func name(s string) api.Expr { return api.Expr{Kind: api.EName, Name: s} }

// word makes the names of many variables.
func word(i int) string {
	s := "v"
	for range 5 {
		s += string(rune('a' + i%26))
		i /= 26
	}
	return s
}

// TestManyVariables: flow has no bound of its own for these, nor for commands, nor for what is known.
func TestManyVariables(t *testing.T) {
	const n = 3000
	f := api.Fun{Name: "f", Result: name(word(n - 1))}
	for i := range n {
		f.Body = append(f.Body, api.Stmt{Kind: api.SSet, Name: word(i), E: name(word((i + 1) % n))})
	}
	f.Body = []api.Stmt{{Kind: api.SWhile, E: api.Expr{Kind: api.ECall, Name: "b.f"}, A: f.Body}}
	m := api.Module{Name: "m", Imports: []string{"b"}, Funs: []api.Fun{f}}
	known := append(slices.Repeat([]api.Module{read(t, "(module c)")}, 5000), read(t, "(module b (fun f () 1))"))
	schemes := append(make([][]api.Scheme, 5000), []api.Scheme{{Result: api.Label{Level: 1}}})
	p, e := Of(two(), m, 0, known, schemes, nil)
	if e != api.OK || len(p.Names) != n || len(p.Cons) != n || len(p.Sinks) != 1 || p.Sinks[0].Label.Level != 1 {
		t.Fatal(len(p.Names), len(p.Cons), p.Sinks, e)
	}
	for i, c := range p.Cons {
		if p.Names[c.To] != word(i) || len(c.From) != 1 || p.Names[c.From[0]] != word((i+1)%n) || c.Label.Level != 1 {
			t.Fatal(i, c)
		}
	}
}

// TestManyCalls: each call is looked for, and what it does is told, however many there are.
func TestManyCalls(t *testing.T) {
	const n = 20000
	call := api.Stmt{Kind: api.SSet, Name: "a", E: api.Expr{Kind: api.ECall, Name: "b.f"}}
	m := api.Module{Name: "m", Imports: []string{"b"}, Funs: []api.Fun{{Name: "f", Body: slices.Repeat([]api.Stmt{call}, n), Result: name("a")}}}
	known := append(slices.Repeat([]api.Module{read(t, "(module c)")}, 2000), read(t, "(module b (fun f () 1))"))
	var effects []string
	for i := range 2000 {
		effects = append(effects, word(2000-i))
	}
	schemes := append(make([][]api.Scheme, 2000), []api.Scheme{{Effects: effects}})
	p, e := Of(two(), m, 0, known, schemes, nil)
	if e != api.OK || len(p.Sinks) != n || len(p.Cons) != n || len(p.Effects) != 2000 || !slices.IsSorted(p.Effects) {
		t.Error(len(p.Sinks), len(p.Cons), len(p.Effects), e)
	}
}

// TestWithin: what Of tells, up to just as many Names and Cons as there are.
func TestWithin(t *testing.T) {
	for i, l := range lattices() {
		r := source{uint64(400 + i), l}
		for range 100 {
			w := r.world(5)
			for k := range w.m.Funs {
				w.own = r.schemes(w.m.Funs[:k])
				want, _ := w.of(k)
				names, cons := len(want.Names), len(want.Cons)
				p, e := Within(w.l, w.m, k, w.known, w.schemes, w.own, names, cons)
				if e != api.OK || !same(p, want) {
					t.Fatal(p, e, want)
				}
				for _, most := range [][2]int{{names - 1, cons}, {names, cons - 1}, {-1, math.MaxInt}, {math.MaxInt, -1}} {
					p, e := Within(w.l, w.m, k, w.known, w.schemes, w.own, most[0], most[1])
					if e != api.ErrLarge || !reflect.DeepEqual(p, api.Problem{}) {
						t.Fatal(p, e, most, names, cons)
					}
				}
			}
		}
	}
	w := around(t, "(call g p q)")
	if _, e := Within(w.l, w.m, 2, w.known, w.schemes, nil, 0, 0); e != api.ErrArg {
		t.Error("ErrArg is told ahead of ErrLarge:", e)
	}
}

// TestDeep: as deep as brackets may be nested.
func TestDeep(t *testing.T) {
	e := name("p")
	for range 18 {
		e = api.Expr{Kind: api.ECall, Name: "g", Args: []api.Expr{e}}
	}
	m := api.Module{Name: "m", Funs: []api.Fun{{Name: "g", Params: []string{"a"}, Result: name("a")}, {Name: "f", Params: []string{"p"}, Result: e}}}
	if errno := tree.Check(m); errno != api.OK {
		t.Fatal(errno)
	}
	p, errno := Of(two(), m, 1, nil, nil, []api.Scheme{{Result: api.Label{Mask: 1}, Bounds: []int{1}}})
	if errno != api.OK || len(p.Sinks) != 36 || !slices.Equal(p.From, []int{0}) {
		t.Error(p, errno)
	}
	m.Funs[1].Result = api.Expr{Kind: api.ECall, Name: "g", Args: []api.Expr{e}}
	if _, errno := Of(two(), m, 1, nil, nil, []api.Scheme{{Bounds: []int{1}}}); errno != api.ErrLarge {
		t.Error(errno)
	}
}

func TestLatticesAreSuch(t *testing.T) {
	for _, l := range lattices() {
		if e := lattice.Check(l); e != api.OK {
			t.Error(l.Names, e)
		}
	}
}

// TestWorldIsGood: else TestNamesFirst and its like would tell nothing.
func TestWorldIsGood(t *testing.T) {
	w := around(t, "1")
	if d, e := names.Check(w.l, w.m, w.known); e != api.OK || len(d) != 0 {
		t.Error(d, e)
	}
}
