package tree

import (
	"math"
	"reflect"
	"slices"
	"strconv"
	"strings"
	"testing"

	"lowdown/api"
)

func num(n int) api.Expr     { return api.Expr{Kind: api.ENumber, N: n} }
func name(s string) api.Expr { return api.Expr{Kind: api.EName, Name: s} }

func op(s string, args ...api.Expr) api.Expr {
	return api.Expr{Kind: api.EOp, Name: s, Args: args}
}

func call(s string, args ...api.Expr) api.Expr {
	return api.Expr{Kind: api.ECall, Name: s, Args: args}
}

func set(s string, e api.Expr) api.Stmt { return api.Stmt{Kind: api.SSet, Name: s, E: e} }
func tell(s string, e api.Expr) api.Stmt {
	return api.Stmt{Kind: api.SPrint, Name: s, E: e}
}
func branch(e api.Expr, a, b []api.Stmt) api.Stmt {
	return api.Stmt{Kind: api.SIf, E: e, A: a, B: b}
}
func loop(e api.Expr, a ...api.Stmt) api.Stmt {
	return api.Stmt{Kind: api.SWhile, E: e, A: a}
}

// telling is a module of one function that has that result.
func telling(e api.Expr) api.Module {
	return api.Module{Name: "m", Funs: []api.Fun{{Name: "f", Result: e}}}
}

// doing is a module of one function that has that body.
func doing(body ...api.Stmt) api.Module {
	return api.Module{Name: "m", Funs: []api.Fun{{Name: "f", Body: body, Result: num(0)}}}
}

// ordinary has one of each.
func ordinary() api.Module {
	return api.Module{
		Name:    "m",
		Imports: []string{"b", "c"},
		Vars:    []api.Var{{Name: "x", Level: "low"}, {Name: "y", Level: "high"}},
		Funs: []api.Fun{
			{Name: "f", Params: []string{"p", "q"}, Body: []api.Stmt{
				branch(op("<", name("p"), num(3)),
					[]api.Stmt{set("x", num(1)), tell("low", name("x"))},
					[]api.Stmt{set("y", op("*", num(2), name("y")))}),
				loop(name("q"), set("q", op("-", name("q"), num(1)))),
			}, Result: call("b.g", name("p"), call("h"))},
			{Name: "g", Result: num(7)},
		},
	}
}

const ordinaryText = "(module m (import b) (import c) (var x low) (var y high)" +
	" (fun f (p q)" +
	" (if (< p 3) ((set x 1) (print low x)) ((set y (* 2 y))))" +
	" (while q ((set q (- q 1))))" +
	" (call b.g p (call h)))" +
	" (fun g () 7))"

func names(n int) []string { return slices.Repeat([]string{"a"}, n) }

func vars(n int) []api.Var {
	return slices.Repeat([]api.Var{{Name: "a", Level: "low"}}, n)
}

func funs(n int) []api.Fun {
	return slices.Repeat([]api.Fun{{Name: "a", Result: num(1)}}, n)
}

// badNames are no NAMEs.
func badNames() []string {
	return []string{"", "A", "aB", "abcdefghi", "a1", "1", "a b", " a", "a ", "(", ")", "a.b", ".", "+", "`", "{", "ä", "a\x00", "\xff", "a\n", "-"}
}

func wantCheck(t *testing.T, what string, m api.Module, want api.Errno) {
	t.Helper()
	if e := Check(m); e != want {
		t.Errorf("%s: Check answers %d, not %d", what, e, want)
	}
	s, e := Print(m)
	if e != want {
		t.Errorf("%s: Print answers %d, not %d", what, e, want)
	}
	if (s == "") != (want != api.OK) {
		t.Errorf("%s: Print tells %q with %d", what, s, e)
	}
}

func TestCheckAccepts(t *testing.T) {
	six := op("+", num(0), num(999999))
	for what, m := range map[string]api.Module{
		"a name alone":    {Name: "m"},
		"the longest":     {Name: "abcdefgh", Imports: []string{"abcdefgh"}, Vars: []api.Var{{Name: "abcdefgh", Level: "abcdefgh"}}},
		"ends of letters": {Name: "az"},
		"ordinary":        ordinary(),
		"eight of each":   {Name: "m", Imports: names(8), Vars: vars(8), Funs: funs(8)},
		"four params":     {Name: "m", Funs: []api.Fun{{Name: "f", Params: names(4), Result: num(0)}}},
		"names twice":     {Name: "m", Imports: []string{"m", "m"}, Vars: []api.Var{{Name: "m", Level: "m"}}},
		"words as names":  {Name: "module", Imports: []string{"import"}, Funs: []api.Fun{{Name: "fun", Params: []string{"set"}, Result: name("if")}}},
		"numbers":         telling(six),
		"many commands":   doing(slices.Repeat([]api.Stmt{set("x", num(1))}, 5000)...),
		"empty lists":     {Name: "m", Imports: []string{}, Vars: []api.Var{}, Funs: []api.Fun{{Name: "f", Params: []string{}, Body: []api.Stmt{}, Result: api.Expr{Kind: api.ENumber, Args: []api.Expr{}}}}},
		"empty blocks":    doing(branch(num(1), nil, nil), loop(num(0)), api.Stmt{Kind: api.SSet, Name: "x", E: num(1), A: []api.Stmt{}, B: []api.Stmt{}}),
		"four args":       telling(call("abcdefgh.abcdefgh", num(1), num(2), num(3), num(4))),
	} {
		wantCheck(t, what, m, api.OK)
	}
	for _, o := range []string{"+", "-", "*", "<", "="} {
		wantCheck(t, o, telling(op(o, num(1), num(2))), api.OK)
	}
}

func TestCheckTooMany(t *testing.T) {
	for what, m := range map[string]api.Module{
		"imports":        {Name: "m", Imports: names(9)},
		"vars":           {Name: "m", Vars: vars(9)},
		"funs":           {Name: "m", Funs: funs(9)},
		"params":         {Name: "m", Funs: []api.Fun{{Name: "f", Params: names(5), Result: num(0)}}},
		"imports no one": {Imports: make([]string, 9)},
	} {
		wantCheck(t, what, m, api.ErrLarge)
	}
}

func TestCheckNames(t *testing.T) {
	for _, bad := range badNames() {
		for what, m := range map[string]api.Module{
			"module":        {Name: bad},
			"first import":  {Name: "m", Imports: []string{bad, "a"}},
			"last import":   {Name: "m", Imports: []string{"a", "b", bad}},
			"var":           {Name: "m", Vars: []api.Var{{Name: "a", Level: "b"}, {Name: bad, Level: "low"}}},
			"level":         {Name: "m", Vars: []api.Var{{Name: "a", Level: bad}, {Name: "b", Level: "low"}}},
			"fun":           {Name: "m", Funs: []api.Fun{{Name: bad, Result: num(0)}}},
			"later fun":     {Name: "m", Funs: []api.Fun{{Name: "f", Result: num(0)}, {Name: bad, Result: num(0)}}},
			"param":         {Name: "m", Funs: []api.Fun{{Name: "f", Params: []string{"a", bad}, Result: num(0)}}},
			"set":           doing(set(bad, num(1))),
			"print":         doing(tell("a", num(1)), tell(bad, num(1))),
			"name":          telling(name(bad)),
			"call's module": telling(call(bad + ".f")),
			"call's fun":    telling(call("b." + bad)),
		} {
			wantCheck(t, what+" "+strconv.Quote(bad), m, api.ErrForm)
		}
		if bad != "a.b" {
			wantCheck(t, "call "+strconv.Quote(bad), telling(call(bad)), api.ErrForm)
		}
	}
	wantCheck(t, "two dots", telling(call("a.b.c")), api.ErrForm)
	wantCheck(t, "two dots side by side", telling(call("a..b")), api.ErrForm)
}

// badExprs are no expressions that may be.
func badExprs() map[string]api.Expr {
	one := []api.Expr{num(1)}
	two := []api.Expr{num(1), num(2)}
	return map[string]api.Expr{
		"nothing":         {},
		"kind 5":          {Kind: 5},
		"kind 5, named":   {Kind: 5, Name: "a"},
		"kind -1":         {Kind: -1},
		"least kind":      {Kind: math.MinInt},
		"below 0":         num(-1),
		"a million":       num(1000000),
		"least number":    num(math.MinInt),
		"greatest number": num(math.MaxInt),
		"number, named":   {Kind: api.ENumber, N: 1, Name: "a"},
		"number of":       {Kind: api.ENumber, N: 1, Args: one},
		"name, numbered":  {Kind: api.EName, Name: "a", N: 1},
		"name of":         {Kind: api.EName, Name: "a", Args: one},
		"op, numbered":    {Kind: api.EOp, Name: "+", N: 1, Args: two},
		"op of none":      op("+"),
		"op of one":       op("+", num(1)),
		"op of three":     op("+", num(1), num(2), num(3)),
		"no op":           op("", two...),
		"op /":            op("/", two...),
		"op >":            op(">", two...),
		"op a":            op("a", two...),
		"op <=":           op("<=", two...),
		"op +-":           op("+-", two...),
		"op of all":       op("+-*<=", two...),
		"call, numbered":  {Kind: api.ECall, Name: "f", N: -1},
		"call of five":    call("f", num(1), num(2), num(3), num(4), num(5)),
		"call of +":       call("+", two...),
	}
}

func TestCheckExprs(t *testing.T) {
	for what, bad := range badExprs() {
		for where, m := range map[string]api.Module{
			"result":   telling(bad),
			"op's 1st": telling(op("+", bad, num(1))),
			"op's 2nd": telling(op("+", num(1), bad)),
			"call's":   telling(call("f", num(1), num(2), num(3), bad)),
			"deep":     telling(op("+", num(1), call("f", op("*", bad, num(1))))),
			"set":      doing(set("x", bad)),
			"print":    doing(tell("x", bad)),
			"if":       doing(branch(bad, nil, nil)),
			"while":    doing(loop(bad)),
			"in if":    doing(branch(num(1), nil, []api.Stmt{set("x", bad)})),
		} {
			wantCheck(t, what+", "+where, m, api.ErrForm)
		}
	}
}

func TestCheckCommands(t *testing.T) {
	good := []api.Stmt{set("x", num(1))}
	for what, bad := range map[string]api.Stmt{
		"nothing":       {},
		"no kind":       {Name: "x", E: num(1)},
		"kind 5":        {Kind: 5, E: num(1)},
		"kind 5, named": {Kind: 5, Name: "x", E: num(1)},
		"kind -1":       {Kind: -1, E: num(1)},
		"set with A":    {Kind: api.SSet, Name: "x", E: num(1), A: good},
		"set with B":    {Kind: api.SSet, Name: "x", E: num(1), B: good},
		"print with A":  {Kind: api.SPrint, Name: "x", E: num(1), A: good},
		"print with B":  {Kind: api.SPrint, Name: "x", E: num(1), B: good},
		"while with B":  {Kind: api.SWhile, E: num(1), A: good, B: good},
		"while, named":  {Kind: api.SWhile, Name: "x", E: num(1), A: good},
		"if, named":     {Kind: api.SIf, Name: "x", E: num(1), A: good, B: good},
		"set to none":   {Kind: api.SSet, Name: "x"},
		"if of none":    {Kind: api.SIf, A: good},
		"while of none": {Kind: api.SWhile, A: good},
	} {
		for where, m := range map[string]api.Module{
			"first":   doing(bad, good[0]),
			"last":    doing(good[0], good[0], bad),
			"if's A":  doing(branch(num(1), []api.Stmt{good[0], bad}, good)),
			"if's B":  doing(branch(num(1), good, []api.Stmt{bad})),
			"while's": doing(loop(num(1), good[0], bad)),
			"deep":    doing(loop(num(1), branch(num(1), good, []api.Stmt{loop(num(1), bad)}))),
			"2nd fun's": {Name: "m", Funs: []api.Fun{
				{Name: "f", Result: num(1)}, {Name: "g", Body: []api.Stmt{bad}, Result: num(1)}}},
		} {
			wantCheck(t, what+", "+where, m, api.ErrForm)
		}
	}
}

// sum is of n brackets in one another, on the side told.
func sum(n, side int) api.Expr {
	e := num(1)
	for range n {
		args := []api.Expr{num(2), num(3)}
		args[side] = e
		e = op("+", args...)
	}
	return e
}

func calls(n int) api.Expr {
	e := call("f")
	for range n - 1 {
		e = call("f", num(1), e)
	}
	return e
}

// whiles are n in one another, with nothing in the inmost; ifs likewise, on the side told.
func whiles(n int) api.Stmt {
	s := loop(num(1))
	for range n - 1 {
		s = loop(num(1), set("x", num(1)), s)
	}
	return s
}

func ifs(n, side int) api.Stmt {
	s := branch(num(1), nil, nil)
	for range n - 1 {
		var blocks [2][]api.Stmt
		blocks[side] = []api.Stmt{s}
		s = branch(num(1), blocks[0], blocks[1])
	}
	return s
}

func TestCheckDepth(t *testing.T) {
	for what, made := range map[string]func(int) api.Module{
		// module, fun, and n brackets
		"sum, left":  func(n int) api.Module { return telling(sum(n-2, 0)) },
		"sum, right": func(n int) api.Module { return telling(sum(n-2, 1)) },
		"calls":      func(n int) api.Module { return telling(calls(n - 2)) },
		"last fun": func(n int) api.Module {
			return api.Module{Name: "m", Funs: []api.Fun{{Name: "f", Result: num(1)}, {Name: "g", Result: sum(n-2, 0)}}}
		},
		"first fun": func(n int) api.Module {
			return api.Module{Name: "m", Funs: []api.Fun{{Name: "f", Result: sum(n-2, 0)}, {Name: "g", Result: num(1)}}}
		},
		// and a command's
		"set":      func(n int) api.Module { return doing(set("x", sum(n-3, 0))) },
		"print":    func(n int) api.Module { return doing(tell("x", sum(n-3, 1)), tell("x", num(1))) },
		"if":       func(n int) api.Module { return doing(branch(sum(n-3, 1), nil, nil)) },
		"while":    func(n int) api.Module { return doing(loop(calls(n - 3))) },
		"if, set":  func(n int) api.Module { return doing(branch(num(1), []api.Stmt{set("x", sum(n-5, 0))}, nil)) },
		"else set": func(n int) api.Module { return doing(branch(num(1), nil, []api.Stmt{set("x", sum(n-5, 0))})) },
	} {
		wantCheck(t, what, made(20), api.OK)
		wantCheck(t, what, made(21), api.ErrLarge)
		wantCheck(t, what, made(3000), api.ErrLarge)
	}
	// Each takes two brackets, the inmost's `()` too.
	for what, made := range map[string]func(int) api.Stmt{
		"whiles": whiles,
		"ifs":    func(n int) api.Stmt { return ifs(n, 0) },
		"elses":  func(n int) api.Stmt { return ifs(n, 1) },
	} {
		wantCheck(t, what, doing(made(9)), api.OK)
		wantCheck(t, what, doing(made(10)), api.ErrLarge)
		wantCheck(t, what, doing(made(3000)), api.ErrLarge)
		wantCheck(t, what+" in a while", doing(loop(num(1), made(8))), api.OK)
		wantCheck(t, what+" in a while", doing(loop(num(1), made(9))), api.ErrLarge)
	}
	// Eight whiles lead to 18.
	within := func(s api.Stmt) api.Module {
		for range 8 {
			s = loop(num(1), s)
		}
		return doing(s)
	}
	wantCheck(t, "set at 19", within(set("x", sum(1, 0))), api.OK)
	wantCheck(t, "set at 19", within(set("x", sum(2, 0))), api.ErrLarge)
}

// TestCheckFarTooDeep goes to the bound of what is promised.
func TestCheckFarTooDeep(t *testing.T) {
	const far = 1<<16 - 8
	wantCheck(t, "sum", telling(sum(far, 0)), api.ErrLarge)
	wantCheck(t, "whiles", doing(whiles(far/2)), api.ErrLarge)
}

// TestCheckOrder: what is told first in P5 is the answer.
func TestCheckOrder(t *testing.T) {
	five := api.Fun{Name: "g", Params: names(5), Result: num(0)}
	wrong := api.Fun{Name: "g", Result: num(-1)}
	deep := api.Fun{Name: "g", Result: sum(30, 0)}
	for what, c := range map[string]struct {
		m    api.Module
		want api.Errno
	}{
		"imports, name":        {api.Module{Name: "M", Imports: names(9)}, api.ErrLarge},
		"vars, import":         {api.Module{Name: "m", Imports: []string{""}, Vars: vars(9)}, api.ErrLarge},
		"funs, var":            {api.Module{Name: "m", Vars: []api.Var{{}}, Funs: funs(9)}, api.ErrLarge},
		"funs, a wrong fun":    {api.Module{Name: "m", Funs: append(funs(8), wrong)}, api.ErrLarge},
		"name, params":         {api.Module{Name: "M", Funs: []api.Fun{five}}, api.ErrForm},
		"import, params":       {api.Module{Name: "m", Imports: []string{""}, Funs: []api.Fun{five}}, api.ErrForm},
		"level, params":        {api.Module{Name: "m", Vars: []api.Var{{Name: "x"}}, Funs: []api.Fun{five}}, api.ErrForm},
		"level, depth":         {api.Module{Name: "m", Vars: []api.Var{{Name: "x"}}, Funs: []api.Fun{deep}}, api.ErrForm},
		"params, name":         {api.Module{Name: "m", Funs: []api.Fun{{Name: "F", Params: names(5), Result: num(0)}}}, api.ErrLarge},
		"params, a bad param":  {api.Module{Name: "m", Funs: []api.Fun{{Name: "f", Params: make([]string, 5), Result: num(0)}}}, api.ErrLarge},
		"params, result":       {api.Module{Name: "m", Funs: []api.Fun{{Name: "f", Params: names(5), Result: num(-1)}}}, api.ErrLarge},
		"params, body":         {api.Module{Name: "m", Funs: []api.Fun{{Name: "f", Params: names(5), Body: []api.Stmt{{}}, Result: num(1)}}}, api.ErrLarge},
		"params, then form":    {api.Module{Name: "m", Funs: []api.Fun{five, wrong}}, api.ErrLarge},
		"form, then params":    {api.Module{Name: "m", Funs: []api.Fun{wrong, five}}, api.ErrForm},
		"depth, then form":     {api.Module{Name: "m", Funs: []api.Fun{deep, wrong}}, api.ErrForm},
		"form, then depth":     {api.Module{Name: "m", Funs: []api.Fun{wrong, deep}}, api.ErrForm},
		"form within depth":    {telling(op("+", sum(30, 0), num(-1))), api.ErrForm},
		"form below depth":     {api.Module{Name: "m", Funs: []api.Fun{{Name: "f", Result: op("+", num(1), wrongAt(30))}}}, api.ErrForm},
		"five Args below that": {api.Module{Name: "m", Funs: []api.Fun{{Name: "f", Result: call("f", sum(30, 0), num(1), num(1), num(1), num(1))}}}, api.ErrForm},
	} {
		wantCheck(t, what, c.m, c.want)
	}
}

// wrongAt has what may not be n brackets deep.
func wrongAt(n int) api.Expr {
	e := num(-1)
	for range n {
		e = op("+", e, num(1))
	}
	return e
}

func TestPrint(t *testing.T) {
	for _, c := range []struct {
		m    api.Module
		want string
	}{
		{ordinary(), ordinaryText},
		{api.Module{Name: "m"}, "(module m)"},
		{api.Module{Name: "m", Vars: []api.Var{{Name: "x", Level: "low"}}, Funs: []api.Fun{{Name: "f", Params: []string{"p"}, Result: name("x")}}}, "(module m (var x low) (fun f (p) x))"},
		{api.Module{Name: "m", Imports: []string{"b", "a", "b"}}, "(module m (import b) (import a) (import b))"},
		{api.Module{Name: "m", Vars: []api.Var{{Name: "y", Level: "high"}, {Name: "x", Level: "low"}}}, "(module m (var y high) (var x low))"},
		{api.Module{Name: "m", Funs: []api.Fun{{Name: "g", Params: []string{"d", "c", "b", "a"}, Result: num(0)}, {Name: "f", Result: num(999999)}}}, "(module m (fun g (d c b a) 0) (fun f () 999999))"},
		{telling(num(10)), "(module m (fun f () 10))"},
		{telling(op("+", num(1), num(2))), "(module m (fun f () (+ 1 2)))"},
		{telling(op("=", op("-", num(1), name("a")), op("*", num(2), op("<", num(3), num(4))))), "(module m (fun f () (= (- 1 a) (* 2 (< 3 4)))))"},
		{telling(call("g")), "(module m (fun f () (call g)))"},
		{telling(call("a.g", num(4), call("h", num(3)), num(2), name("z"))), "(module m (fun f () (call a.g 4 (call h 3) 2 z)))"},
		{doing(set("x", call("g")), set("y", num(2))), "(module m (fun f () (set x (call g)) (set y 2) 0))"},
		{doing(tell("low", name("x"))), "(module m (fun f () (print low x) 0))"},
		{doing(branch(name("x"), nil, nil)), "(module m (fun f () (if x () ()) 0))"},
		{doing(branch(name("x"), []api.Stmt{set("a", num(1))}, nil)), "(module m (fun f () (if x ((set a 1)) ()) 0))"},
		{doing(branch(name("x"), nil, []api.Stmt{set("a", num(1)), set("b", num(2))})), "(module m (fun f () (if x () ((set a 1) (set b 2))) 0))"},
		{doing(loop(name("x"))), "(module m (fun f () (while x ()) 0))"},
		{doing(loop(call("g"), loop(num(1), tell("a", num(2))), set("b", num(3)))), "(module m (fun f () (while (call g) ((while 1 ((print a 2))) (set b 3))) 0))"},
	} {
		if s, e := Print(c.m); e != api.OK || s != c.want {
			t.Errorf("%q, %d; not %q", s, e, c.want)
		}
	}
}

// bracketDepth counts what a text shows.
func bracketDepth(s string) int {
	depth, deepest := 0, 0
	for _, c := range s {
		switch c {
		case '(':
			depth++
		case ')':
			depth--
		}
		deepest = max(deepest, depth)
	}
	return deepest
}

// source makes modules of all shapes, the same ones each time.
type source struct{ state uint64 }

func (r *source) below(n int) int {
	r.state = r.state*6364136223846793005 + 1442695040888963407
	return int((r.state >> 33) % uint64(n))
}

func (r *source) expr(n int) api.Expr {
	if n <= 0 || r.below(6) == 0 {
		if r.below(2) == 0 {
			return num(r.below(1000000))
		}
		return name("x")
	}
	if r.below(2) == 0 {
		return op("+-*<="[r.below(5):][:1], r.expr(n-1), r.expr(r.below(n)))
	}
	e := call("g")
	for range r.below(3) {
		e.Args = append(e.Args, r.expr(n-1-r.below(n)))
	}
	return e
}

func (r *source) body(n int) []api.Stmt {
	var out []api.Stmt
	for range r.below(3) {
		e := r.expr(n - 3 - r.below(4))
		switch r.below(4) {
		case 0:
			out = append(out, set("x", e))
		case 1:
			out = append(out, tell("low", e))
		case 2:
			out = append(out, branch(e, r.body(n-2), r.body(n-2-r.below(3))))
		case 3:
			if n > 0 {
				out = append(out, loop(e, r.body(n-2)...))
			}
		}
	}
	return out
}

// TestDepthIsTheTexts holds the depth that Check goes by against the text's own.
func TestDepthIsTheTexts(t *testing.T) {
	r := source{1}
	var seen [30]int
	for range 4000 {
		n := r.below(24)
		m := api.Module{Name: "m", Funs: []api.Fun{{Name: "f", Body: r.body(n), Result: r.expr(r.below(3))}}}
		text := moduleText(m)
		deep := bracketDepth(text)
		want := api.OK
		if deep > 20 {
			want = api.ErrLarge
		}
		if s, e := Print(m); e != want || e == api.OK && s != text || e != api.OK && s != "" {
			t.Fatal(deep, s, e)
		}
		if strings.Contains(text, "  ") || strings.Contains(text, "( ") || strings.Contains(text, " )") || strings.Contains(text, ")(") {
			t.Fatal(text)
		}
		seen[min(deep, 29)]++
	}
	if seen[20] == 0 || seen[21] == 0 || seen[3] == 0 {
		t.Error(seen)
	}
}

// roomy has room behind each of its lists, with something in it.
func roomy() api.Module {
	m := ordinary()
	m.Imports = append(m.Imports, "behind")[:2]
	m.Vars = append(m.Vars, api.Var{Name: "behind"})[:2]
	m.Funs = append(m.Funs, api.Fun{Name: "behind"})[:2]
	f := &m.Funs[0]
	f.Params = append(f.Params, "behind", "it")[:2]
	f.Body = append(f.Body, api.Stmt{Name: "behind"})[:2]
	f.Body[0].A = append(f.Body[0].A, api.Stmt{Name: "behind"})[:2]
	f.Result.Args = append(f.Result.Args, name("behind"))[:2]
	return m
}

// whole shows the room behind a module's lists too.
func whole(m api.Module) api.Module {
	m.Imports = slices.Clone(m.Imports[:cap(m.Imports)])
	m.Vars = slices.Clone(m.Vars[:cap(m.Vars)])
	m.Funs = slices.Clone(m.Funs[:cap(m.Funs)])
	for i := range m.Funs {
		f := &m.Funs[i]
		f.Params = slices.Clone(f.Params[:cap(f.Params)])
		f.Body = wholeBody(f.Body)
		f.Result = wholeExpr(f.Result)
	}
	return m
}

func wholeBody(body []api.Stmt) []api.Stmt {
	out := slices.Clone(body[:cap(body)])
	for i := range out {
		out[i].E, out[i].A, out[i].B = wholeExpr(out[i].E), wholeBody(out[i].A), wholeBody(out[i].B)
	}
	return out
}

func wholeExpr(e api.Expr) api.Expr {
	e.Args = slices.Clone(e.Args[:cap(e.Args)])
	for i := range e.Args {
		e.Args[i] = wholeExpr(e.Args[i])
	}
	return e
}

// TestNothingIsChangedOrKept: P2.
func TestNothingIsChangedOrKept(t *testing.T) {
	m := roomy()
	ahead := whole(m)
	for range 2 {
		wantCheck(t, "roomy", m, api.OK)
		if s, _ := Print(m); s != ordinaryText {
			t.Error(s)
		}
		wantCheck(t, "wrong", telling(num(-1)), api.ErrForm)
	}
	if !reflect.DeepEqual(whole(m), ahead) {
		t.Error("what was handed in is changed")
	}
	s, _ := Print(m)
	m.Imports[0], m.Funs[0].Body[0].A[0].Name = "z", "z"
	if s != ordinaryText {
		t.Error("what was answered goes on changing")
	}
}
