package run

import (
	"math"
	"reflect"
	"slices"
	"sort"
	"strings"
	"testing"

	"lowdown/api"
	"lowdown/parse"
	"lowdown/tree"
)

func read(t *testing.T, s string) api.Module {
	t.Helper()
	m, at, e := parse.Parse(s)
	if e != api.OK {
		t.Fatal(s, at, e)
	}
	return m
}

func readAll(t *testing.T, texts ...string) []api.Module {
	t.Helper()
	var out []api.Module
	for _, s := range texts {
		out = append(out, read(t, s))
	}
	return out
}

func same(a, b Outcome) bool {
	return a.Result == b.Result && slices.Equal(a.Store, b.Store) && slices.Equal(a.Prints, b.Prints) && slices.Equal(a.Did, b.Did)
}

func cell(mod, name string, value int) api.Cell {
	return api.Cell{Mod: mod, Name: name, Value: value}
}

// runs: of modules, m.f is run, with plenty of fuel.
func runs(t *testing.T, l []api.Module, args []int, store []api.Cell) Outcome {
	t.Helper()
	o, e := Run(l, "m", "f", args, store, api.MaxFuel)
	if e != api.OK {
		text, _ := tree.Print(l[0])
		t.Fatal(text, args, e)
	}
	return o
}

func expectResult(t *testing.T, text string, args []int, want int) {
	t.Helper()
	if o := runs(t, readAll(t, text), args, nil); o.Result != want {
		t.Errorf("%s of %v: %d; want %d", text, args, o.Result, want)
	}
}

func expectErrno(t *testing.T, l []api.Module, mod, fun string, args []int, fuel int, want api.Errno) {
	t.Helper()
	o, e := Run(l, mod, fun, args, nil, fuel)
	if e != want {
		t.Errorf("%s.%s of %v with %d: %d; want %d", mod, fun, args, fuel, e, want)
	}
	if e != api.OK && !reflect.DeepEqual(o, Outcome{}) {
		t.Errorf("%d, and all the same %v", e, o)
	}
}

// TestExample: P12 and P13, all at once.
func TestExample(t *testing.T) {
	l := readAll(t,
		"(module m (import b) (var x low) (var y high) (fun f (p) (set x (+ p 1)) (print low x) (set q (call b.g 5)) (print high (+ q y)) (* x 10)))",
		"(module b (var n high) (fun g (k) (set n (+ n k)) n))")
	o := runs(t, l, []int{2}, []api.Cell{cell("b", "n", 7), cell("m", "y", 100)})
	want := Outcome{
		Result: 30,
		Store:  []api.Cell{cell("m", "x", 3), cell("m", "y", 100), cell("b", "n", 12)},
		Prints: []api.Print{{Level: "low", Value: 3}, {Level: "high", Value: 112}},
		Did:    []string{"p:high", "p:low", "r:b.n", "r:m.x", "r:m.y", "w:b.n", "w:m.x"},
	}
	if !same(o, want) {
		t.Errorf("%v; want %v", o, want)
	}
}

// TestOperators: P12, values that go round.
func TestOperators(t *testing.T) {
	const top, bottom = math.MaxInt64, math.MinInt64
	for _, c := range []struct {
		op         string
		a, b, want int
	}{
		{"+", 2, 3, 5}, {"+", top, 1, bottom}, {"+", bottom, -1, top}, {"+", bottom, bottom, 0},
		{"-", 2, 3, -1}, {"-", 3, 2, 1}, {"-", bottom, 1, top}, {"-", 0, bottom, bottom}, {"-", top, -1, bottom},
		{"*", 6, 7, 42}, {"*", -6, 7, -42}, {"*", top, 2, -2}, {"*", bottom, -1, bottom}, {"*", 1 << 32, 1 << 32, 0}, {"*", 1 << 32, 1 << 31, bottom},
		{"<", 1, 2, 1}, {"<", 2, 1, 0}, {"<", 2, 2, 0}, {"<", -1, 0, 1}, {"<", bottom, top, 1}, {"<", top, bottom, 0},
		{"=", 1, 1, 1}, {"=", 1, 2, 0}, {"=", -1, 1, 0}, {"=", bottom, bottom, 1}, {"=", bottom, 0, 0},
	} {
		expectResult(t, "(module m (fun f (p q) ("+c.op+" p q)))", []int{c.a, c.b}, c.want)
	}
	expectResult(t, "(module m (fun f () 0))", nil, 0)
	expectResult(t, "(module m (fun f () 999999))", nil, 999999)
	expectResult(t, "(module m (fun f () (- (* 3 4) (+ 1 (< 1 2)))))", nil, 10)
	o := runs(t, readAll(t, "(module m (var x low) (fun f (p) (set x p) (print low (+ x x)) x))"), []int{bottom}, nil)
	if o.Result != bottom || o.Store[0].Value != bottom || o.Prints[0].Value != 0 {
		t.Error(o)
	}
}

// TestNames: P12, whose a name is.
func TestNames(t *testing.T) {
	for text, want := range map[string]int{
		// a Param's, ahead of the module's
		"(module m (var p low) (var q low) (fun f (p q) (set p (+ p 1)) (+ (* 10 p) q)))": 22,
		// of two of one name the last one's value
		"(module m (fun f (p p) p))":                   2,
		"(module m (fun f (p p) (set p (+ p 5)) p))":   7,
		"(module m (var p low) (fun f (p p) (* p p)))": 4,
		// the function's own, at first 0
		"(module m (fun f (p q) z))":                                               0,
		"(module m (fun f (p q) (set z (+ z 1)) (set z (+ z p)) z))":               2,
		"(module m (fun f (p q) (if z ((set y 1)) ((set y 2))) (+ y z)))":          2,
		"(module m (fun f (p q) (while (< z 5) ((set z (+ z q)))) z))":             6,
		"(module m (fun g () (set z (+ z 1)) z) (fun f (p q) (set z (+ p q)) z))":  3,
		"(module m (fun f (p q) (set f 3) (set m 4) (set low 5) (+ f (+ m low))))": 12,
	} {
		expectResult(t, text, []int{1, 2}, want)
	}
	// each call begins anew, and has nothing of the one that calls it
	expectResult(t, "(module m (fun g (p) (set z (+ z p)) z) (fun f () (set a (call g 3)) (set b (call g 4)) (+ (* 10 a) b)))", nil, 34)
	expectResult(t, "(module m (fun g () (+ z p)) (fun f (p) (set z 5) (+ (call g) (* 100 z))))", []int{7}, 500)
	expectResult(t, "(module m (fun g (p) (set p 9) (set z 9) 0) (fun f (p) (set z 1) (set u (call g p)) (+ (* 10 p) z)))", []int{2}, 21)
	// a module's is there for all of its functions, from call to call
	expectResult(t, "(module m (var n low) (fun g () (set n (+ n 1)) n) (fun f () (set a (call g)) (set b (call g)) (+ (* 100 a) (+ (* 10 b) n))))", nil, 122)
	// but where a Param hides it
	expectResult(t, "(module m (var n low) (fun g (n) (set n 7) n) (fun f () (set n 1) (+ (call g 2) n)))", nil, 8)
}

// TestModulesApart: P12, the variable of the module that the function is in.
func TestModulesApart(t *testing.T) {
	l := readAll(t,
		"(module m (import b) (var x low) (fun f () (set x 1) (set y 2) (set a (call b.g)) (+ (* 100 a) (+ (* 10 x) y))))",
		"(module b (var x low) (var y low) (fun g () (set x (+ x 3)) (set y (+ y 4)) (+ x y)))")
	o := runs(t, l, nil, []api.Cell{cell("b", "x", 1), cell("m", "y", 9), cell("b", "y", 1)})
	want := Outcome{Result: 912, Store: []api.Cell{cell("m", "x", 1), cell("b", "x", 4), cell("b", "y", 5)},
		Did: []string{"r:b.x", "r:b.y", "r:m.x", "w:b.x", "w:b.y", "w:m.x"}}
	if !same(o, want) {
		t.Errorf("%v; want %v", o, want)
	}
}

// TestFirstValues: P12, what store says.
func TestFirstValues(t *testing.T) {
	l := readAll(t, "(module m (var x low) (var y low) (var x high) (fun f () (+ x y)))", "(module b (var x low))")
	for _, c := range []struct {
		store []api.Cell
		want  []int // m.x, m.y, b.x
	}{
		{nil, []int{0, 0, 0}},
		{[]api.Cell{cell("m", "x", 5)}, []int{5, 0, 0}},
		{[]api.Cell{cell("m", "x", 5), cell("m", "x", 6), cell("m", "y", 7), cell("m", "y", 8)}, []int{5, 7, 0}},
		{[]api.Cell{cell("m", "x", 0), cell("m", "x", 6)}, []int{0, 0, 0}},
		{[]api.Cell{cell("b", "x", 3), cell("m", "x", -4)}, []int{-4, 0, 3}},
		{[]api.Cell{cell("b", "y", 3), cell("c", "x", 4), cell("", "x", 4), cell("m", "", 4), cell("mx", "", 4), cell("m.x", "", 1), cell("", "m.x", 1), cell("M", "x", 4), cell("m", "x ", 4)}, []int{0, 0, 0}},
		{[]api.Cell{cell("m", "y", math.MinInt64), cell("m", "x", math.MaxInt64)}, []int{math.MaxInt64, math.MinInt64, 0}},
	} {
		o := runs(t, l, nil, c.store)
		want := Outcome{Result: c.want[0] + c.want[1], Store: []api.Cell{cell("m", "x", c.want[0]), cell("m", "y", c.want[1]), cell("b", "x", c.want[2])}, Did: []string{"r:m.x", "r:m.y"}}
		if !same(o, want) {
			t.Errorf("%v: %v; want %v", c.store, o, want)
		}
	}
}

// TestStoreAtTheEnd: P13, which cells, and in which order.
func TestStoreAtTheEnd(t *testing.T) {
	l := readAll(t,
		"(module z (var b low))",
		"(module m (var y low) (var x low) (var y high) (var a low) (fun f () (set x 1) (set y 2) (set w 3) 0))",
		"(module a)",
		"(module m (var k low) (var x low) (fun f () (set k 9) 0))",
		"(module z (var b low) (var c low))",
		"(module c (var y low))")
	o := runs(t, l, nil, []api.Cell{cell("c", "y", 8), cell("m", "k", 7), cell("z", "c", 6), cell("z", "b", 5), cell("gone", "g", 4)})
	want := []api.Cell{cell("z", "b", 5), cell("m", "y", 2), cell("m", "x", 1), cell("m", "a", 0), cell("c", "y", 8)}
	if !slices.Equal(o.Store, want) {
		t.Errorf("%v; want %v", o.Store, want)
	}
	if o := runs(t, readAll(t, "(module m (fun f () (set x 1) x))"), nil, []api.Cell{cell("m", "x", 4)}); len(o.Store) != 0 || o.Result != 1 || len(o.Did) != 0 {
		t.Error(o)
	}
}

// TestSecondOfAName: a variable of the second module of a name is not the first one's.
func TestSecondOfAName(t *testing.T) {
	l := readAll(t, "(module m (fun f () (set k (+ k 1)) (+ (* 10 k) (call g))))", "(module m (var k low) (fun g () k))")
	l[0].Funs = append(readAll(t, "(module m (fun g () k))")[0].Funs, l[0].Funs...)
	o := runs(t, l, nil, []api.Cell{cell("m", "k", 5)})
	if !same(o, Outcome{Result: 10}) {
		t.Error(o)
	}
}

// TestCommands: P12, what each does, and in which order.
func TestCommands(t *testing.T) {
	for text, want := range map[string]string{
		"(print a 1) (print b 2) (print a 3)":                                                                 "a1 b2 a3",
		"(if 1 ((print a 1) (print a 2)) ((print a 3)))":                                                      "a1 a2",
		"(if 0 ((print a 1) (print a 2)) ((print a 3) (print a 4)))":                                          "a3 a4",
		"(if (- 0 1) ((print a 1)) ((print a 3)))":                                                            "a1",
		"(if 2 () ((print a 3))) (if 0 ((print a 3)) ())":                                                     "",
		"(while 0 ((print a 1)))":                                                                             "",
		"(set i 3) (while i ((print a i) (set i (- i 1)))) (print b i)":                                       "a3 a2 a1 b0",
		"(set i 3) (while (< 0 i) ((set i (- i 1)) (print a i)))":                                             "a2 a1 a0",
		"(set i (- 0 2)) (while i ((set i (+ i 1)) (print a (+ i 5))))":                                       "a4 a5",
		"(set i 2) (while i ((set j 2) (while j ((print a (+ (* 3 i) j)) (set j (- j 1)))) (set i (- i 1))))": "a8 a7 a5 a4",
		"(set x 1) (set y x) (set x 2) (print a y) (print a x)":                                               "a1 a2",
		"(set x 5) (if x ((set x 0) (print a 1)) ((print a 2)))":                                              "a1",
		// what is asked may print by itself
		"(print a (call tell 1))":                                                                 "t1 a1",
		"(if (call tell 0) ((print a 1)) ((print a 2)))":                                          "t0 a2",
		"(set i 2) (while (call tell i) ((set i (- i 1))))":                                       "t2 t1 t0",
		"(set z (+ (call tell 1) (* (call tell 2) (call tell 3)))) (print a z)":                   "t1 t2 t3 a7",
		"(set z (call four (call tell 1) (call tell 2) (call tell 3) (call tell 4))) (print a z)": "t1 t2 t3 t4 a4",
		"(print a (call four 1 2 3 (call four 4 3 2 (call tell 9))))":                             "t9 a9",
		// Args are told from left to right: what a later one sets, an earlier one hasn't seen
		"(set v 1) (print a (+ (* 10 v) (call inc)))":                            "a12",
		"(set v 1) (print a (+ (call inc) (* 10 v)))":                            "a22",
		"(set v 1) (print a (call four v (call inc) v (+ (* 10 v) (call inc))))": "a23",
	} {
		m := read(t, "(module m (var v low) (fun tell (p) (print t p) p) (fun inc () (set v (+ v 1)) v) (fun four (a b c d) d) (fun f () "+text+" 0))")
		o := runs(t, []api.Module{m}, nil, nil)
		var got []string
		for _, p := range o.Prints {
			got = append(got, p.Level+decimal(p.Value))
		}
		if strings.Join(got, " ") != want {
			t.Errorf("%s: %v; want %s", text, got, want)
		}
	}
}

func decimal(n int) string {
	if n < 10 {
		return string(rune('0' + n))
	}
	return decimal(n/10) + decimal(n%10)
}

// TestCalls: P9, with all modules for known.
func TestCalls(t *testing.T) {
	l := readAll(t,
		"(module b (fun h () 100))",
		"(module m (import b) (import m) (fun g () 1) (fun g () 2) (fun f (p) (if (= p 1) ((set r (call g))) ()) (if (= p 2) ((set r (call b.h))) ()) (if (= p 3) ((set r (call m.k))) ()) (if (= p 4) ((set r (call m.g))) ()) r) (fun k () (+ (call g) 5)) (fun f (p) 77))",
		"(module b (fun h () 200))",
		"(module m (fun g () 9) (fun f (p) 99))")
	for p, want := range []int{0, 1, 100, 6, 1} {
		if o := runs(t, l, []int{p}, nil); o.Result != want {
			t.Errorf("%d: %d; want %d", p, o.Result, want)
		}
	}
	// what is called calls as its own module says
	l = readAll(t,
		"(module m (import b) (fun h () 1) (fun f () (call b.g)))",
		"(module b (import c) (fun h () 2) (fun g () (+ (* 10 (call h)) (call c.h))))",
		"(module c (fun h () 3))")
	if o := runs(t, l, nil, nil); o.Result != 23 {
		t.Error(o)
	}
	for _, text := range []string{
		"(module m (fun f () (call f)))",
		"(module m (fun f () (call g)) (fun g () 1))",
		"(module m (fun f () (call c.h)))",
		"(module m (fun f () (call m.f)))",
		"(module m (import c) (fun f () (call c.g)))",
		"(module m (import d) (fun f () (call d.g)))",
		"(module m (import c) (fun f () (call h)))",
		"(module m (import b) (fun f () (call c.h)))",
	} {
		expectErrno(t, append(readAll(t, text), l[1:]...), "m", "f", nil, 100, api.ErrNone)
	}
	for _, text := range []string{
		"(module m (import b) (fun f () (call b.g 1)))",
		"(module m (fun g (p) p) (fun f () (call g)))",
		"(module m (fun g (p) p) (fun f () (call g 1 2)))",
		"(module m (fun g (p p) p) (fun f () (call g 1)))",
	} {
		expectErrno(t, append(readAll(t, text), l[1:]...), "m", "f", nil, 100, api.ErrForm)
	}
	// what isn't come to isn't wrong
	expectResult(t, "(module m (fun g () 1) (fun f () (if 0 ((set x (call nope))) ()) (while 0 ((set x (call g 1)))) 4) (fun h () (call none)))", nil, 4)
}

// TestRoundAndRound: imports may go round, so may calls.
func TestRoundAndRound(t *testing.T) {
	l := readAll(t,
		"(module m (import b) (var n low) (fun f (p) (set n (+ n 1)) (if p ((set r (call b.g (- p 1)))) ((set r 1))) (* r 2)))",
		"(module b (import m) (fun g (p) (+ (call m.f p) 1)))")
	o := runs(t, l, []int{3}, nil)
	// f(0) = 2, f(p) = 2 * (f(p-1) + 1)
	if o.Result != 30 || o.Store[0].Value != 4 {
		t.Error(o)
	}
	self := readAll(t, "(module m (import m) (fun f (n) (if (< n 2) ((set r n)) ((set r (+ (call m.f (- n 1)) (call m.f (- n 2)))))) r))")
	if o := runs(t, self, []int{12}, nil); o.Result != 144 {
		t.Error(o)
	}
}

// TestDeepCalls: P1, as deep as fuel lets calls go, each as deep as brackets let it stand.
func TestDeepCalls(t *testing.T) {
	deep := "(call m.f)"
	for range 17 {
		deep = "(+ 1 " + deep + ")"
	}
	expectErrno(t, readAll(t, "(module m (import m) (fun f () "+deep+"))"), "m", "f", nil, api.MaxFuel, api.ErrFuel)
	inner := "(set r (call m.f))"
	for range 7 {
		inner = "(if 1 (" + inner + ") ())"
	}
	expectErrno(t, readAll(t, "(module m (import m) (fun f () "+inner+" 0))"), "m", "f", nil, api.MaxFuel, api.ErrFuel)
	count := readAll(t, "(module m (import m) (var n low) (fun f (p) (if p ((set n (+ 1 (call m.f (- p 1))))) ()) n))")
	// if, set, call of each round, and if of the last one
	if o, e := Run(count, "m", "f", []int{3333}, nil, api.MaxFuel); e != api.OK || o.Result != 3333 {
		t.Error(o.Result, e)
	}
	expectErrno(t, count, "m", "f", []int{3334}, api.MaxFuel, api.ErrFuel)
}

// TestFuel: P12, what each needs: just so much is enough, one less isn't.
func TestFuel(t *testing.T) {
	for text, need := range map[string]int{
		"0":                                       0,
		"(+ 1 (* 2 (< p 3)))":                     0,
		"(set x 1) 0":                             1,
		"(set x (+ 1 2)) x":                       1,
		"(print low 1) 0":                         1,
		"(if 1 () ()) 0":                          1,
		"(if 0 () ()) 0":                          1,
		"(if 1 ((set x 1)) ()) 0":                 2,
		"(if 1 () ((set x 1))) 0":                 1,
		"(if 0 () ((set x 1) (set x 2))) 0":       3,
		"(while 0 ()) 0":                          1,
		"(while 0 ((set x 1))) 0":                 1,
		"(set x 1) (while x ((set x 0))) 0":       4,
		"(set x 3) (while x ((set x (- x 1)))) 0": 8,
		"(set x 2) (while x ((set x (- x 1)) (print a x))) 0": 8,
		"(call one)":                         1,
		"(call set)":                         2,
		"(call id (call one))":               2,
		"(call id (call set))":               3,
		"(+ (call one) (call one))":          2,
		"(call both)":                        5,
		"(set x (call one)) 0":               2,
		"(print a (call set)) 0":             3,
		"(if (call one) ((set x 1)) ()) 0":   3,
		"(set v 2) (while (call down) ()) 0": 10,
	} {
		m := read(t, "(module m (var v low) (fun one () 1) (fun set () (set v 1) v) (fun id (p) p) (fun both () (+ (call one) (call id (call set)))) (fun down () (set v (- v 1)) (+ v 1)) (fun f () "+text+"))")
		for fuel := 1; fuel <= need+2; fuel++ {
			want := api.OK
			if fuel < need {
				want = api.ErrFuel
			}
			expectErrno(t, []api.Module{m}, "m", "f", nil, fuel, want)
		}
	}
	for _, text := range []string{"(while 1 ())", "(while 1 ((set x 1)))", "(while 1 ((while 0 ())))", "(if 1 ((while 1 ((print low 1)))) ())"} {
		expectErrno(t, readAll(t, "(module m (fun f () "+text+" 0))"), "m", "f", nil, api.MaxFuel, api.ErrFuel)
	}
	// set, while, and two of each round
	long := readAll(t, "(module m (fun f (p) (while p ((set p (- p 1)))) p))")
	expectErrno(t, long, "m", "f", []int{4999}, api.MaxFuel, api.OK)
	expectErrno(t, long, "m", "f", []int{5000}, api.MaxFuel, api.ErrFuel)
}

// TestWhicheverCameFirst: P11.
func TestWhicheverCameFirst(t *testing.T) {
	for _, c := range []struct {
		text string
		fuel int
		want api.Errno
	}{
		{"(call none)", 1, api.ErrNone},
		{"(call one 1)", 1, api.ErrForm},
		{"(set x (call none)) 0", 1, api.ErrFuel},
		{"(set x (call none)) 0", 2, api.ErrNone},
		{"(set x (call one 1)) 0", 1, api.ErrFuel},
		{"(set x (call one 1)) 0", 2, api.ErrForm},
		{"(while 1 ()) (call none)", 50, api.ErrFuel},
		{"(set x (call none)) (while 1 ()) (call one 1)", 50, api.ErrNone},
		{"(set x (call one 1)) (while 1 ()) (call none)", 50, api.ErrForm},
		{"(+ (call none) (call one 1))", 50, api.ErrNone},
		{"(+ (call one 1) (call none))", 50, api.ErrForm},
		{"(+ (call spin) (call none))", 50, api.ErrFuel},
		{"(+ (call none) (call spin))", 50, api.ErrNone},
		// Args come ahead of what their call means
		{"(call none (call one 1))", 50, api.ErrForm},
		{"(call none (call spin))", 50, api.ErrFuel},
		{"(call none (call one))", 1, api.ErrFuel},
		{"(call none (call one))", 2, api.ErrNone},
		{"(call one (call none))", 50, api.ErrNone},
		{"(call one (call spin))", 50, api.ErrFuel},
		{"(call one (call one))", 1, api.ErrFuel},
		{"(call one (call one))", 2, api.ErrForm},
		{"(call bad)", 1, api.ErrFuel},
		{"(call bad)", 2, api.ErrNone},
	} {
		m := read(t, "(module m (fun one () 1) (fun spin () (while 1 ()) 0) (fun bad () (call nowhere)) (fun f () "+c.text+"))")
		expectErrno(t, []api.Module{m}, "m", "f", nil, c.fuel, c.want)
	}
}

// TestDid: P13.
func TestDid(t *testing.T) {
	for body, want := range map[string]string{
		"0":                                     "",
		"x":                                     "r:m.x",
		"p":                                     "",
		"own":                                   "",
		"(set x 1) 0":                           "w:m.x",
		"(set x x) 0":                           "r:m.x w:m.x",
		"(set x 0) 0":                           "w:m.x",
		"(set p 1) (set own 2) (+ p own)":       "",
		"(set own x) 0":                         "r:m.x",
		"(print low 1) 0":                       "p:low",
		"(print x 1) (print x y) (print a 0) 0": "p:a p:x r:m.y",
		"(if x () ()) 0":                        "r:m.x",
		"(if 0 ((set x y)) ()) 0":               "",
		"(if 1 ((set x y)) ((print low 1))) 0":  "r:m.y w:m.x",
		"(if 0 ((set x y)) ((print low 1))) 0":  "p:low",
		"(while x ((set y 1))) 0":               "r:m.x",
		"(while 0 ((print low x))) 0":           "",
		"(+ (* x y) (- y x))":                   "r:m.x r:m.y",
		"(call id x)":                           "r:m.x",
		"(call b.x)":                            "r:b.x",
		"(call b.sx)":                           "p:b w:b.x",
		"(+ (call b.x) (call b.sx))":            "p:b r:b.x w:b.x",
		"(call hide 3)":                         "",
		"(set x (call b.x)) (print high (+ (call b.sx) y)) (print b 1) 0": "p:b p:high r:b.x r:m.y w:b.x w:m.x",
	} {
		l := readAll(t,
			"(module m (import b) (var y low) (var x low) (var p high) (fun id (q) q) (fun hide (x) (set x (+ x 1)) x) (fun f (p) "+body+"))",
			"(module b (var x low) (fun x () x) (fun sx () (set x 2) (print b 2) 0))")
		o := runs(t, l, []int{1}, nil)
		if strings.Join(o.Did, " ") != want {
			t.Errorf("%s: %v; want %s", body, o.Did, want)
		}
	}
	// as texts: `.` is below the letters
	l := readAll(t,
		"(module m (import mm) (import ma) (var z low) (var a low) (fun f () (+ (call mm.g) (+ (call ma.g) (+ z a)))))",
		"(module mm (var a low) (fun g () a))", "(module ma (var a low) (fun g () a))")
	if o := runs(t, l, nil, nil); strings.Join(o.Did, " ") != "r:m.a r:m.z r:ma.a r:mm.a" {
		t.Error(o.Did)
	}
}

// TestErrors: P11, in their order.
func TestErrors(t *testing.T) {
	good := read(t, "(module m (var x low) (fun f (p q) p) (fun g () (call nope)) (fun f () 1))")
	other := read(t, "(module b (fun g () 1))")
	form, large := api.Module{Name: "M"}, api.Module{Name: "m", Imports: make([]string, 9)}
	seven := slices.Repeat([]api.Module{good}, 7)
	two := []int{1, 2}
	for _, c := range []struct {
		what     string
		l        []api.Module
		mod, fun string
		args     []int
		fuel     int
		want     api.Errno
	}{
		{"good", []api.Module{good, other}, "m", "f", two, 1, api.OK},
		{"six", seven[:6], "m", "f", two, 1, api.OK},
		{"most fuel", []api.Module{good}, "m", "f", two, 10000, api.OK},
		{"form", []api.Module{form, large}, "", "", nil, 0, api.ErrForm},
		{"size", []api.Module{large, form}, "", "", nil, 0, api.ErrLarge},
		{"second", []api.Module{good, form}, "m", "f", two, 100, api.ErrForm},
		{"last", []api.Module{good, good, large}, "m", "f", two, 100, api.ErrLarge},
		{"nothing", []api.Module{{}}, "", "", nil, 100, api.ErrForm},
		{"seven", seven, "m", "f", two, 100, api.ErrLarge},
		{"seven, no fuel", seven, "", "", nil, 0, api.ErrLarge},
		{"seven, one bad", append(slices.Clone(seven), form), "m", "f", two, 100, api.ErrForm},
		{"no fuel", []api.Module{good}, "m", "f", two, 0, api.ErrArg},
		{"below none", []api.Module{good}, "m", "f", two, -1, api.ErrArg},
		{"least", []api.Module{good}, "m", "f", two, math.MinInt, api.ErrArg},
		{"too much fuel", []api.Module{good}, "m", "f", two, 10001, api.ErrArg},
		{"most", []api.Module{good}, "m", "f", two, math.MaxInt, api.ErrArg},
		{"fuel, then names", nil, "", "", nil, 10001, api.ErrArg},
		{"no modules", nil, "m", "f", two, 100, api.ErrNone},
		{"no such module", []api.Module{good}, "n", "f", two, 100, api.ErrNone},
		{"no name", []api.Module{good}, "", "f", two, 100, api.ErrNone},
		{"any bytes", []api.Module{good}, "m\x00", "\xff", two, 100, api.ErrNone},
		{"no such function", []api.Module{good}, "m", "h", two, 100, api.ErrNone},
		{"no function's name", []api.Module{good}, "m", "", nil, 100, api.ErrNone},
		{"with a dot", []api.Module{good}, "m", "m.f", two, 100, api.ErrNone},
		{"in another", []api.Module{good, other}, "b", "f", two, 100, api.ErrNone},
		{"in the second so named", []api.Module{other, read(t, "(module b (fun h () 1))")}, "b", "h", nil, 100, api.ErrNone},
		{"in the first so named", []api.Module{good, other, read(t, "(module b (fun g (p) 1))")}, "b", "g", nil, 100, api.OK},
		{"too few", []api.Module{good}, "m", "f", []int{1}, 100, api.ErrForm},
		{"as the second f has", []api.Module{good}, "m", "f", nil, 100, api.ErrForm},
		{"too many", []api.Module{good}, "m", "f", []int{1, 2, 3}, 100, api.ErrForm},
		{"far too many", []api.Module{good}, "m", "g", make([]int, 1000), 100, api.ErrForm},
		{"run", []api.Module{good}, "m", "g", nil, 100, api.ErrNone},
	} {
		o, e := Run(c.l, c.mod, c.fun, c.args, []api.Cell{cell("m", "x", 1)}, c.fuel)
		if e != c.want || e != api.OK && !reflect.DeepEqual(o, Outcome{}) {
			t.Errorf("%s: %v, %d; want %d", c.what, o, e, c.want)
		}
	}
}

// source makes modules of all shapes, the same ones each time.
type source struct{ state uint64 }

func (r *source) below(n int) int {
	r.state = r.state*6364136223846793005 + 1442695040888963407
	return int((r.state >> 33) % uint64(n))
}

func (r *source) one(of ...string) string { return of[r.below(len(of))] }

func (r *source) name() string { return r.one("a", "b", "c", "d", "e") }

// callee is mostly one that is there.
func (r *source) callee(m api.Module) string {
	switch k := r.below(20); {
	case k == 0:
		return r.name() + "." + r.name()
	case k == 1 || len(m.Imports) == 0 && len(m.Funs) == 0:
		return r.name()
	case k < 8 && len(m.Funs) > 0 || len(m.Imports) == 0:
		return m.Funs[r.below(len(m.Funs))].Name
	}
	return m.Imports[r.below(len(m.Imports))] + "." + r.one("a", "a", "a", "a", "a", "b")
}

func (r *source) expr(m api.Module, n int) api.Expr {
	switch k := r.below(18); {
	case n > 0 && k < 8:
		return api.Expr{Kind: api.EOp, Name: r.one("+", "-", "*", "<", "="), Args: []api.Expr{r.expr(m, n-1), r.expr(m, n-1)}}
	case n > 0 && k < 10 && len(m.Imports)+len(m.Funs) > r.below(2):
		e := api.Expr{Kind: api.ECall, Name: r.callee(m)}
		for range r.arity() {
			e.Args = append(e.Args, r.expr(m, n-1))
		}
		return e
	case k < 15:
		return api.Expr{Kind: api.EName, Name: r.name()}
	}
	return api.Expr{Kind: api.ENumber, N: r.below(5)}
}

// arity is mostly 1, so that calls mostly fit.
func (r *source) arity() int {
	if k := r.below(30); k < 3 {
		return k
	}
	return 1
}

func (r *source) body(m api.Module, n int) []api.Stmt {
	var out []api.Stmt
	for range 1 + r.below(3) {
		k := r.below(7)
		switch {
		case k < 2 || n == 0 && k > 3:
			out = append(out, api.Stmt{Kind: api.SSet, Name: r.name(), E: r.expr(m, 2)})
		case k < 4:
			out = append(out, api.Stmt{Kind: api.SPrint, Name: r.one("low", "high", "a"), E: r.expr(m, 2)})
		case k < 6:
			out = append(out, api.Stmt{Kind: api.SIf, E: r.expr(m, 2), A: r.body(m, n-1), B: r.body(m, n-1)})
		default:
			out = append(out, api.Stmt{Kind: api.SWhile, E: r.expr(m, 2), A: r.body(m, n-1)})
		}
	}
	return out
}

func (r *source) module() api.Module {
	m := api.Module{Name: r.one("a", "b", "c")}
	for range r.below(3) {
		m.Imports = append(m.Imports, r.one("a", "b", "c"))
	}
	for range r.below(4) {
		m.Vars = append(m.Vars, api.Var{Name: r.name(), Level: "low"})
	}
	for i := range 1 + r.below(3) {
		f := api.Fun{Name: r.one("a", "b"), Body: r.body(m, 2), Result: r.expr(m, 2)}
		if i == 0 {
			f.Name = "a"
		}
		for range r.arity() {
			f.Params = append(f.Params, r.name())
		}
		m.Funs = append(m.Funs, f)
	}
	return m
}

// modules mostly have a, b and c, so that there is what they import.
func (r *source) modules() []api.Module {
	var out []api.Module
	for i := range 1 + r.below(6) {
		m := r.module()
		if i < 3 && r.below(4) > 0 {
			m.Name = []string{"a", "b", "c"}[i]
		}
		out = append(out, m)
	}
	return out
}

func (r *source) store() []api.Cell {
	var out []api.Cell
	for range r.below(8) {
		out = append(out, cell(r.one("a", "b", "c"), r.name(), r.below(9)-3))
	}
	return out
}

// oracle is P12 once more: names are looked for in lists, anew each time, and an error leaves by a panic.
type oracle struct {
	l     []api.Module
	cells []api.Cell // the last one of a variable counts
	fuel  int
	out   Outcome
	did   map[string]int
}

func (o *oracle) pay() {
	o.fuel--
	if o.fuel < 0 {
		panic(api.ErrFuel)
	}
}

// first module of that name.
func (o *oracle) first(name string) *api.Module {
	for i := range o.l {
		if o.l[i].Name == name {
			return &o.l[i]
		}
	}
	return nil
}

func (o *oracle) value(mod, name string) int {
	for i := len(o.cells) - 1; i >= 0; i-- {
		if o.cells[i].Mod == mod && o.cells[i].Name == name {
			return o.cells[i].Value
		}
	}
	return 0
}

// meant is P9 once more.
func (o *oracle) meant(m *api.Module, k int, call string) (*api.Module, int) {
	mod, fun, dotted := strings.Cut(call, ".")
	if !dotted {
		for i := range k {
			if m.Funs[i].Name == call {
				return m, i
			}
		}
		panic(api.ErrNone)
	}
	to := o.first(mod)
	if !slices.Contains(m.Imports, mod) || to == nil {
		panic(api.ErrNone)
	}
	for i := range to.Funs {
		if to.Funs[i].Name == fun {
			return to, i
		}
	}
	panic(api.ErrNone)
}

type pair struct {
	name  string
	value int
}

func (o *oracle) run(m *api.Module, k int, args []int) int {
	f := m.Funs[k]
	if len(args) != len(f.Params) {
		panic(api.ErrForm)
	}
	var own []pair // the last one of a name counts
	for i := range args {
		own = append(own, pair{f.Params[i], args[i]})
	}
	isModules := func(name string) bool {
		return !slices.Contains(f.Params, name) && slices.ContainsFunc(m.Vars, func(v api.Var) bool { return v.Name == name })
	}
	var ask func(e api.Expr) int
	ask = func(e api.Expr) int {
		var v []int
		for _, a := range e.Args {
			v = append(v, ask(a))
		}
		switch {
		case e.Kind == api.ENumber:
			return e.N
		case e.Kind == api.ECall:
			o.pay()
			to, i := o.meant(m, k, e.Name)
			return o.run(to, i, v)
		case e.Kind == api.EName && isModules(e.Name):
			o.did["r:"+m.Name+"."+e.Name]++
			return o.value(m.Name, e.Name)
		case e.Kind == api.EName:
			for i := len(own) - 1; i >= 0; i-- {
				if own[i].name == e.Name {
					return own[i].value
				}
			}
			return 0
		}
		return int(map[string]func(a, b int64) int64{
			"+": func(a, b int64) int64 { return a + b },
			"-": func(a, b int64) int64 { return a - b },
			"*": func(a, b int64) int64 { return a * b },
			"<": func(a, b int64) int64 { return map[bool]int64{true: 1}[a < b] },
			"=": func(a, b int64) int64 { return map[bool]int64{true: 1}[a == b] },
		}[e.Name](int64(v[0]), int64(v[1])))
	}
	var do func(list []api.Stmt)
	do = func(list []api.Stmt) {
		for _, s := range list {
			o.pay()
			v := ask(s.E)
			switch s.Kind {
			case api.SSet:
				if isModules(s.Name) {
					o.did["w:"+m.Name+"."+s.Name]++
					o.cells = append(o.cells, cell(m.Name, s.Name, v))
				} else {
					own = append(own, pair{s.Name, v})
				}
			case api.SPrint:
				o.did["p:"+s.Name]++
				o.out.Prints = append(o.out.Prints, api.Print{Level: s.Name, Value: v})
			case api.SIf:
				do(map[bool][]api.Stmt{true: s.B, false: s.A}[v == 0])
			case api.SWhile:
				for v != 0 {
					do(s.A)
					o.pay()
					v = ask(s.E)
				}
			}
		}
	}
	do(f.Body)
	return ask(f.Result)
}

func (o *oracle) finish() {
	told := map[string]bool{}
	for _, m := range o.l {
		for _, v := range m.Vars {
			here := slices.ContainsFunc(o.first(m.Name).Vars, func(w api.Var) bool { return w.Name == v.Name })
			if key := m.Name + "." + v.Name; here && !told[key] {
				told[key] = true
				o.out.Store = append(o.out.Store, cell(m.Name, v.Name, o.value(m.Name, v.Name)))
			}
		}
	}
	for text := range o.did {
		o.out.Did = append(o.out.Did, text)
	}
	sort.Strings(o.out.Did)
}

func expected(l []api.Module, mod, fun string, args []int, store []api.Cell, fuel int) (out Outcome, errno api.Errno) {
	defer func() {
		if e, ok := recover().(api.Errno); ok {
			out, errno = Outcome{}, e
		}
	}()
	o := oracle{l: l, fuel: fuel, did: map[string]int{}}
	for i := len(store) - 1; i >= 0; i-- {
		o.cells = append(o.cells, store[i])
	}
	m := o.first(mod)
	if m == nil {
		return Outcome{}, api.ErrNone
	}
	k := slices.IndexFunc(m.Funs, func(f api.Fun) bool { return f.Name == fun })
	if k < 0 {
		return Outcome{}, api.ErrNone
	}
	o.out.Result = o.run(m, k, args)
	o.finish()
	return o.out, api.OK
}

// TestAgainstTheWords: random programs, held against P11 to P13 written anew.
func TestAgainstTheWords(t *testing.T) {
	r := source{1}
	seen := map[api.Errno]int{}
	called, printed := 0, 0
	for range 10000 {
		l, store := r.modules(), r.store()
		fun, fuel := r.one("a", "a", "a", "a", "b"), 1+r.below(120)
		mod := r.one(l[0].Name, l[0].Name, l[0].Name, r.one("a", "b", "c"))
		args := []int{r.below(7) - 3, r.below(3)}[:r.arity()]
		want, wantErrno := expected(l, mod, fun, args, store, fuel)
		got, errno := Run(l, mod, fun, args, store, fuel)
		if errno != wantErrno || !same(got, want) {
			for _, m := range l {
				text, _ := tree.Print(m)
				t.Log(text)
			}
			t.Fatalf("%s.%s of %v in %v with %d: %v, %d; want %v, %d", mod, fun, args, store, fuel, got, errno, want, wantErrno)
		}
		seen[errno]++
		if len(got.Prints) > 1 {
			printed++
		}
		if slices.ContainsFunc(got.Did, func(s string) bool { return s[0] != 'p' && s[2:3] != mod }) {
			called++
		}
	}
	for _, e := range []api.Errno{api.OK, api.ErrNone, api.ErrForm, api.ErrFuel} {
		if seen[e] < 300 {
			t.Error("too few of", e, seen[e])
		}
	}
	if called < 100 || printed < 100 {
		t.Error("too few that call, or print:", called, printed)
	}
}

// roomy puts room with something in it behind the lists of a module.
func roomy(m api.Module) api.Module {
	m.Imports = append(slices.Clone(m.Imports), "room", "room")[:len(m.Imports)]
	m.Vars = append(slices.Clone(m.Vars), api.Var{Name: "room"})[:len(m.Vars)]
	m.Funs = append(slices.Clone(m.Funs), api.Fun{Name: "room"})[:len(m.Funs)]
	for i, f := range m.Funs {
		m.Funs[i].Params = append(slices.Clone(f.Params), "room")[:len(f.Params)]
		m.Funs[i].Body = append(slices.Clone(f.Body), api.Stmt{Name: "room"})[:len(f.Body)]
	}
	return m
}

// rooms shows the lists up to their ends.
func rooms(m api.Module) api.Module {
	m.Imports = slices.Clone(m.Imports[:cap(m.Imports)])
	m.Vars = slices.Clone(m.Vars[:cap(m.Vars)])
	m.Funs = slices.Clone(m.Funs[:cap(m.Funs)])
	for i, f := range m.Funs {
		m.Funs[i].Params = slices.Clone(f.Params[:cap(f.Params)])
		m.Funs[i].Body = slices.Clone(f.Body[:cap(f.Body)])
	}
	return m
}

func spoil(o Outcome) {
	for i := range o.Store[:cap(o.Store)] {
		o.Store[:cap(o.Store)][i] = cell("spoilt", "spoilt", 1)
	}
	for i := range o.Prints[:cap(o.Prints)] {
		o.Prints[:cap(o.Prints)][i] = api.Print{Level: "spoilt", Value: 1}
	}
	for i := range o.Did[:cap(o.Did)] {
		o.Did[:cap(o.Did)][i] = "spoilt"
	}
}

// TestNothingIsChangedOrKept: P2.
func TestNothingIsChangedOrKept(t *testing.T) {
	r := source{2}
	for range 1000 {
		a, b := roomy(r.module()), roomy(r.module())
		l := append(make([]api.Module, 0, 4), a, b)
		aWas, bWas := rooms(a), rooms(b)
		args := append(make([]int, 0, 4), 2)
		store := append(r.store(), cell("room", "room", 1))
		store = store[:len(store)-1]
		storeWas := slices.Clone(store[:cap(store)])
		first, e := Run(l, a.Name, "a", args, store, 300)
		second, _ := Run(l, a.Name, "a", args, store, 300)
		want := Outcome{first.Result, slices.Clone(first.Store), slices.Clone(first.Prints), slices.Clone(first.Did)}
		spoil(first)
		third, again := Run(l, a.Name, "a", args, store, 300)
		if !same(second, want) || !same(third, want) || e != again {
			t.Fatal("an answer is kept, or shared")
		}
		if !reflect.DeepEqual(rooms(l[0]), aWas) || !reflect.DeepEqual(rooms(l[1]), bWas) {
			t.Fatal("a module is changed")
		}
		if !slices.Equal(store[:cap(store)], storeWas) || !slices.Equal(args[:4], []int{2, 0, 0, 0}) || !reflect.DeepEqual(l[:4][2:], make([]api.Module, 2)) {
			t.Fatal("a list that was handed in is changed")
		}
	}
}

// TestEachBeginsAnew: P2, a run has nothing of the one ahead of it.
func TestEachBeginsAnew(t *testing.T) {
	l := readAll(t, "(module m (var x low) (fun f () (set x (+ x 1)) (set y (+ y 1)) (print low y) x))")
	for range 3 {
		o := runs(t, l, nil, []api.Cell{cell("m", "x", 4)})
		if !same(o, Outcome{5, []api.Cell{cell("m", "x", 5)}, []api.Print{{Level: "low", Value: 1}}, []string{"p:low", "r:m.x", "w:m.x"}}) {
			t.Error(o)
		}
	}
}
