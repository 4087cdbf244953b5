package parse

import (
	"reflect"
	"slices"
	"strings"
	"testing"

	"lowdown/api"
	"lowdown/lex"
	"lowdown/tree"
)

func num(n int) api.Expr     { return api.Expr{Kind: api.ENumber, N: n} }
func name(s string) api.Expr { return api.Expr{Kind: api.EName, Name: s} }

func op(s string, a, b api.Expr) api.Expr {
	return api.Expr{Kind: api.EOp, Name: s, Args: []api.Expr{a, b}}
}

func call(s string, args ...api.Expr) api.Expr {
	return api.Expr{Kind: api.ECall, Name: s, Args: args}
}

func set(s string, e api.Expr) api.Stmt  { return api.Stmt{Kind: api.SSet, Name: s, E: e} }
func tell(s string, e api.Expr) api.Stmt { return api.Stmt{Kind: api.SPrint, Name: s, E: e} }

func branch(e api.Expr, a, b []api.Stmt) api.Stmt {
	return api.Stmt{Kind: api.SIf, E: e, A: a, B: b}
}

func loop(e api.Expr, a ...api.Stmt) api.Stmt {
	return api.Stmt{Kind: api.SWhile, E: e, A: a}
}

// telling is a module of one function that has that body and that result.
func telling(e api.Expr, body ...api.Stmt) api.Module {
	return api.Module{Name: "m", Funs: []api.Fun{{Name: "f", Body: body, Result: e}}}
}

// result is the text of a module whose function has that text for its body and result.
func result(s string) string { return "(module m (fun f () " + s + "))" }

const resultAt = len("(module m (fun f () ")

func expectModule(t *testing.T, s string, want api.Module) {
	t.Helper()
	m, at, e := Parse(s)
	if e != api.OK || at != 0 || !same(m, want) {
		t.Errorf("Parse(%q) = %+v, %d, %d; want %+v", s, m, at, e, want)
	}
}

func expectError(t *testing.T, s string, where int, errno api.Errno) {
	t.Helper()
	m, at, e := Parse(s)
	if e != errno || at != where || !reflect.DeepEqual(m, api.Module{}) {
		t.Errorf("Parse(%q) = %+v, %d, %d; want nothing, %d, %d", s, m, at, e, where, errno)
	}
}

// expectSyntax takes the text with a `!` ahead of the word that can't stand, or at the end.
func expectSyntax(t *testing.T, marked string) {
	t.Helper()
	ahead, behind, found := strings.Cut(marked, "!")
	if !found {
		t.Fatalf("%q has no mark", marked)
	}
	expectError(t, ahead+behind, len(ahead), api.ErrSyntax)
}

// same takes lists that have nothing in them for one thing.
func same(a, b api.Module) bool {
	return a.Name == b.Name && slices.Equal(a.Imports, b.Imports) && slices.Equal(a.Vars, b.Vars) && slices.EqualFunc(a.Funs, b.Funs, sameFun)
}

func sameFun(a, b api.Fun) bool {
	return a.Name == b.Name && slices.Equal(a.Params, b.Params) && slices.EqualFunc(a.Body, b.Body, sameStmt) && sameExpr(a.Result, b.Result)
}

func sameStmt(a, b api.Stmt) bool {
	return a.Kind == b.Kind && a.Name == b.Name && sameExpr(a.E, b.E) && slices.EqualFunc(a.A, b.A, sameStmt) && slices.EqualFunc(a.B, b.B, sameStmt)
}

func sameExpr(a, b api.Expr) bool {
	return a.Kind == b.Kind && a.N == b.N && a.Name == b.Name && slices.EqualFunc(a.Args, b.Args, sameExpr)
}

// ordinary has one of each.
const ordinary = "(module m (import b) (import c) (var x low) (var y high)" +
	" (fun f (p q)" +
	" (if (< p 3) ((set x 1) (print low x)) ((set y (* 2 y))))" +
	" (while q ((set q (- q 1))))" +
	" (call b.g p (call h)))" +
	" (fun g () 7))"

func ordinaryModule() api.Module {
	return api.Module{
		Name:    "m",
		Imports: []string{"b", "c"},
		Vars:    []api.Var{{Name: "x", Level: "low"}, {Name: "y", Level: "high"}},
		Funs: []api.Fun{
			{Name: "f", Params: []string{"p", "q"}, Body: []api.Stmt{
				branch(op("<", name("p"), num(3)),
					[]api.Stmt{set("x", num(1)), tell("low", name("x"))},
					[]api.Stmt{set("y", op("*", num(2), name("y")))}),
				loop(name("q"), set("q", op("-", name("q"), num(1)))),
			}, Result: call("b.g", name("p"), call("h"))},
			{Name: "g", Result: num(7)},
		},
	}
}

func TestModules(t *testing.T) {
	expectModule(t, ordinary, ordinaryModule())
	expectModule(t, "(module m)", api.Module{Name: "m"})
	expectModule(t, "(module m (var x low) (fun f (p) x))", api.Module{
		Name: "m",
		Vars: []api.Var{{Name: "x", Level: "low"}},
		Funs: []api.Fun{{Name: "f", Params: []string{"p"}, Result: name("x")}},
	})
	expectModule(t, "(module m (import b) (import a) (import b))", api.Module{Name: "m", Imports: []string{"b", "a", "b"}})
	expectModule(t, "(module m (fun f (d c b a) 0))", api.Module{Name: "m", Funs: []api.Fun{{Name: "f", Params: []string{"d", "c", "b", "a"}, Result: num(0)}}})
	for s, want := range map[string]api.Module{
		"0":                     telling(num(0)),
		"9":                     telling(num(9)),
		"10":                    telling(num(10)),
		"999999":                telling(num(999999)),
		"x":                     telling(name("x")),
		"(+ 1 2)":               telling(op("+", num(1), num(2))),
		"(- a b)":               telling(op("-", name("a"), name("b"))),
		"(* (< 1 2) (= 3 4))":   telling(op("*", op("<", num(1), num(2)), op("=", num(3), num(4)))),
		"(call g)":              telling(call("g")),
		"(call a.g)":            telling(call("a.g")),
		"(call g (call h) 1 x)": telling(call("g", call("h"), num(1), name("x"))),
		"(set a 1) (+ 1 2)":     telling(op("+", num(1), num(2)), set("a", num(1))),
		"(set a (call g)) 1":    telling(num(1), set("a", call("g"))),
		"(print low x) y":       telling(name("y"), tell("low", name("x"))),
		"(if x () ()) 1":        telling(num(1), branch(name("x"), nil, nil)),
		"(if x ((set a 1)) ()) 1": telling(num(1),
			branch(name("x"), []api.Stmt{set("a", num(1))}, nil)),
		"(if x () ((set a 1) (set b 2))) 1": telling(num(1),
			branch(name("x"), nil, []api.Stmt{set("a", num(1)), set("b", num(2))})),
		"(while x ()) 1": telling(num(1), loop(name("x"))),
		"(while (call g) ((while 1 ((print a 2))) (set b 3))) 1": telling(num(1),
			loop(call("g"), loop(num(1), tell("a", num(2))), set("b", num(3)))),
	} {
		expectModule(t, result(s), want)
	}
}

// TestWordsOfTheLanguageAreNames: a NAME is letters, whatever they mean elsewhere.
func TestWordsOfTheLanguageAreNames(t *testing.T) {
	expectModule(t, "(module module (import import) (var var fun) (fun fun (call set) (set set set) (print print if) while))", api.Module{
		Name:    "module",
		Imports: []string{"import"},
		Vars:    []api.Var{{Name: "var", Level: "fun"}},
		Funs: []api.Fun{{Name: "fun", Params: []string{"call", "set"}, Body: []api.Stmt{
			set("set", name("set")), tell("print", name("if")),
		}, Result: name("while")}},
	})
	expectModule(t, result("(call call call)"), telling(call("call", name("call"))))
}

func TestAnyOrderOfItems(t *testing.T) {
	want := api.Module{
		Name:    "m",
		Imports: []string{"b", "a"},
		Vars:    []api.Var{{Name: "y", Level: "high"}, {Name: "x", Level: "low"}},
		Funs:    []api.Fun{{Name: "g", Result: num(1)}, {Name: "f", Result: num(2)}},
	}
	expectModule(t, "(module m (fun g () 1) (var y high) (import b) (fun f () 2) (import a) (var x low))", want)
	expectModule(t, "(module m (var y high) (var x low) (fun g () 1) (fun f () 2) (import b) (import a))", want)
}

func TestBetweenWords(t *testing.T) {
	m := api.Module{Name: "m", Funs: []api.Fun{{Name: "f", Params: []string{"p"}, Result: op("+", name("p"), num(1))}}}
	expectModule(t, "(module m(fun f(p)(+ p 1)))", m)
	expectModule(t, "\n (  module\n\nm ( fun  f ( p )\n( + p 1 ) ) )\n \n", m)
	expectModule(t, strings.ReplaceAll(ordinary, " ", "\n"), ordinaryModule())
}

func TestLexErrors(t *testing.T) {
	expectError(t, "(module m)\t", 10, api.ErrSyntax)
	expectError(t, "(module M)", 8, api.ErrSyntax)
	expectError(t, "A", 0, api.ErrSyntax)
	// A byte that may not be is told ahead of a word that can't stand.
	expectError(t, "(modul m) x é", 12, api.ErrSyntax)
	full := "(module m)" + strings.Repeat(" ", api.MaxText-10)
	expectModule(t, full, api.Module{Name: "m"})
	expectError(t, full+" ", 0, api.ErrLarge)
	expectError(t, "A"+full, 0, api.ErrLarge)
}

func TestWordsThatCannotStand(t *testing.T) {
	for _, s := range []string{
		"!m", "!)", "(!", "(!)", "(!(", "(!modul m)", "(!modules m)", "(!import b)",
		"(module !)", "(module !(", "(module m !x)", "(module m !7)", "(module m)!)", "(module m) !(", "(module m) !x", "(module m) !(module m)",
		"(module m (!))", "(module m (!(import b)))", "(module m (!lib b))", "(module m (!module b))", "(module m (!set x 1))", "(module m (!imports b))",
		"(module m (import!))", "(module m (import !(b)))", "(module m (import b !c))", "(module m (import b !(",
		"(module m (var!))", "(module m (var x!))", "(module m (var x low !high))", "(module m (var x !(low)))",
		"(module m (fun!))", "(module m (fun !(p) 1))", "(module m (fun f !1))", "(module m (fun f!))", "(module m (fun f (!(p)) 1))", "(module m (fun f (p !(q)) 1))",
		"(module m (fun f ()!))",
	} {
		expectSyntax(t, s)
	}
}

func TestWordsThatCannotStandInFunctions(t *testing.T) {
	for _, s := range []string{
		"1 !2", "x !(set a 1)", "x !(+ 1 2)", "(+ 1 2) !(+ 1 2)", "(+ 1 2) !x", "(call g) !(set a 1)", "(set a 1)!",
		"(!)", "(!x)", "(!7)", "(!(set a 1)) 1", "(!((+ 1 2)))", "(!++ 1 2)", "(!<= 1 2)", "(!calls g)", "(!sets a 1) 1", "(!fun g () 1)", "(!. 1 2)",
		"(+!)", "(+ 1!)", "(+ 1 2 !3)", "(+ 1 2 !(", "(< (!set a 1) 2)", "(= 1 (!print a 1))",
		"(call!)", "(call !(g))", "(call g (!))", "(call g (!if x () ()))",
		"(set!) 1", "(set x!) 1", "(set !(x) 1) 1", "(set x 1 !2) 1", "(set x (!set y 1)) 1", "(set x (!)) 1", "(set x 1 !(",
		"(print!) 1", "(print low!) 1", "(print !(low) 1) 1", "(print low 1 !2) 1",
		"(if!) 1", "(if x!) 1", "(if x !y) 1", "(if x ()!) 1", "(if x () !y) 1", "(if x () () !()) 1", "(if x () () !y) 1", "(if (!)) 1", "(if (!set a 1) () ()) 1",
		"(if x (!y) ()) 1", "(if x (!7) ()) 1", "(if x ((!+ 1 2)) ()) 1", "(if x ((!call g)) ()) 1", "(if x ((!)) ()) 1", "(if x ((!((set a 1)))) ()) 1", "(if x (!set a 1) ()) 1", "(if x () (!set a 1)) 1", "(if x ((set a 1) !b) ()) 1", "(if x () ((set a 1) (!call g))) 1",
		"(while!) 1", "(while x!) 1", "(while x !y) 1", "(while x () !()) 1", "(while x () !y) 1", "(while x (!set a 1)) 1", "(while x ((!* 1 2))) 1",
	} {
		ahead, behind, _ := strings.Cut(s, "!")
		expectSyntax(t, "(module m (fun f () "+ahead+"!"+behind+"))")
	}
}

func TestNumbers(t *testing.T) {
	for _, s := range []string{"00", "01", "007", "000000", "1000000", "1234567", "0999999", "99999999999999999999", strings.Repeat("9", 4000)} {
		expectError(t, result(s), resultAt, api.ErrSyntax)
		expectError(t, result("(+ 1 "+s+")"), resultAt+5, api.ErrSyntax)
		if len(s) < 100 {
			expectError(t, result("(set x "+s+") 1"), resultAt+7, api.ErrSyntax)
			expectError(t, result("(call g 1 "+s), resultAt+10, api.ErrSyntax)
		}
	}
	for _, n := range []int{0, 1, 9, 10, 90, 100, 12345, 99999, 100000, 123456, 999998, 999999} {
		text, _ := tree.Print(telling(num(n)))
		expectModule(t, text, telling(num(n)))
	}
}

// TestWordsThatEndTooEarly cuts a text behind each of its words but the last one.
func TestWordsThatEndTooEarly(t *testing.T) {
	words, starts, _, _ := lex.Words(ordinary)
	for i, w := range words[:len(words)-1] {
		end := starts[i] + len(w)
		expectError(t, ordinary[:end], end, api.ErrSyntax)
		expectError(t, ordinary[:end]+" \n ", end+3, api.ErrSyntax)
	}
	expectError(t, "", 0, api.ErrSyntax)
	expectError(t, "\n\n", 2, api.ErrSyntax)
	expectError(t, "(module m", 9, api.ErrSyntax)
	// A word that is cut itself can't stand: nothing that follows makes it longer.
	expectError(t, "(modul", 1, api.ErrSyntax)
}

// TestWhatTheTreesCheckFinds: any word but a bracket may stand where a NAME does.
func TestWhatTheTreesCheckFinds(t *testing.T) {
	for _, w := range []string{"7", "01", "a1", "1a", "a.b", ".", "+", "-", "-1", "<=", "abcdefghi", "toolongname", "1234567"} {
		for _, s := range []string{
			"(module " + w + ")",
			"(module m (import " + w + "))",
			"(module m (var " + w + " low))",
			"(module m (var x " + w + "))",
			"(module m (fun " + w + " () 1))",
			"(module m (fun f (" + w + ") 1))",
			"(module m (fun f (p " + w + ") 1))",
			result("(set " + w + " 1) 1"),
			result("(print " + w + " 1) 1"),
			result("(while 1 ((set " + w + " 1))) 1"),
		} {
			expectError(t, s, 0, api.ErrForm)
		}
	}
	for _, w := range []string{"a1", "1a", "a.b", "1.5", "1+1", ".", "+", "-", "-1", "+1", "<=", "abcdefghi"} {
		expectError(t, result(w), 0, api.ErrForm)
		expectError(t, result("(+ 1 "+w+")"), 0, api.ErrForm)
		expectError(t, result("(call g "+w+")"), 0, api.ErrForm)
		expectError(t, result("(if "+w+" () ()) 1"), 0, api.ErrForm)
	}
	for _, w := range []string{"7", "a1", "1a", "a.", ".b", "a.b.c", ".", "+", "abcdefghi", "a.abcdefghi", "abcdefghi.a"} {
		expectError(t, result("(call "+w+")"), 0, api.ErrForm)
	}
}

func TestTooMany(t *testing.T) {
	for _, item := range []string{" (import b)", " (var x low)", " (fun f () 1)"} {
		if _, at, e := Parse("(module m" + strings.Repeat(item, 8) + ")"); at != 0 || e != api.OK {
			t.Error(item, at, e)
		}
		expectError(t, "(module m"+strings.Repeat(item, 9)+")", 0, api.ErrLarge)
		expectError(t, "(module m"+strings.Repeat(item, 90)+")", 0, api.ErrLarge)
	}
	expectModule(t, "(module m (fun f (a b c d) 1))", api.Module{Name: "m", Funs: []api.Fun{{Name: "f", Params: []string{"a", "b", "c", "d"}, Result: num(1)}}})
	expectError(t, "(module m (fun f (a b c d e) 1))", 0, api.ErrLarge)
	expectModule(t, result("(call g 1 2 3 4)"), telling(call("g", num(1), num(2), num(3), num(4))))
	expectError(t, result("(call g 1 2 3 4 5)"), 0, api.ErrForm)
	// What can't stand is told ahead of what tree.Check finds, wherever it is.
	expectSyntax(t, "(module 7 (fun f (a b c d e) 1 !2))")
	expectSyntax(t, "(module m"+strings.Repeat(" (import 1)", 9)+" !x)")
	expectSyntax(t, "(module 7!")
}

// nested is an expression of n brackets in one another.
func nested(n int) string {
	return strings.Repeat("(+ 1 ", n) + "2" + strings.Repeat(")", n)
}

func TestDepth(t *testing.T) {
	// Two brackets stand around a function's result.
	deepest := result(nested(api.MaxDepth - 2))
	m, at, e := Parse(deepest)
	if at != 0 || e != api.OK {
		t.Error(at, e)
	}
	if s, e := tree.Print(m); e != api.OK || s != deepest {
		t.Error(s, e)
	}
	over := resultAt + len("(+ 1 ")*(api.MaxDepth-2)
	expectError(t, result(nested(api.MaxDepth-1)), over, api.ErrSyntax)
	expectError(t, result(nested(api.MaxDepth+100)), over, api.ErrSyntax)
	expectError(t, result(nested(api.MaxDepth - 1))[:over+1], over, api.ErrSyntax)
	expectError(t, strings.Repeat("(", 4096), 1, api.ErrSyntax)
	// Brackets behind each other are not in one another.
	if _, at, e := Parse(result("(set a " + nested(17) + ") (set b " + nested(17) + ") " + nested(18))); at != 0 || e != api.OK {
		t.Error(at, e)
	}
}

// TestDepthOfCommands: a loop takes two brackets, its own and that of its commands, be there any or not.
func TestDepthOfCommands(t *testing.T) {
	loops := func(n int, in string) string {
		return result(strings.Repeat("(while 1 (", n) + in + strings.Repeat("))", n) + " 0")
	}
	for _, s := range []string{loops(9, ""), loops(8, "(set x (call g))"), loops(8, "(set x (+ 1 2))"), loops(8, "(if x () ())")} {
		if _, at, e := Parse(s); at != 0 || e != api.OK {
			t.Error(s, at, e)
		}
	}
	over := resultAt + 9*len("(while 1 (")
	expectError(t, loops(9, "(set x 1)"), over, api.ErrSyntax)
	expectError(t, loops(9, "(lib b)"), over, api.ErrSyntax)
	expectError(t, loops(9, "("), over, api.ErrSyntax)
	expectError(t, loops(8, "(set x (+ 1 (+ 2 3)))"), over-len("(while 1 (")+len("(set x (+ 1 "), api.ErrSyntax)
	expectError(t, loops(8, "(if x ((set a 1)) ())"), over-len("(while 1 (")+len("(if x ("), api.ErrSyntax)
	expectError(t, loops(8, "(if x () ((set a 1)))"), over-len("(while 1 (")+len("(if x () ("), api.ErrSyntax)
}

// source makes texts of all shapes, the same ones each time.
type source struct{ state uint64 }

func (r *source) below(n int) int {
	r.state = r.state*6364136223846793005 + 1442695040888963407
	return int((r.state >> 33) % uint64(n))
}

func (r *source) one(of ...string) string { return of[r.below(len(of))] }

func (r *source) name() string { return r.one("a", "x", "low", "abcdefgh", "set", "call", "module") }

func (r *source) expr(n int) api.Expr {
	if n <= 0 || r.below(6) == 0 {
		if r.below(2) == 0 {
			return num(r.below(1000000))
		}
		return name(r.name())
	}
	if r.below(2) == 0 {
		return op(r.one("+", "-", "*", "<", "="), r.expr(n-1), r.expr(n-1-r.below(n)))
	}
	e := call(r.one("g", "m.g", "call.if"))
	for range r.below(5) {
		e.Args = append(e.Args, r.expr(n-2))
	}
	return e
}

func (r *source) body(n int) []api.Stmt {
	var out []api.Stmt
	for range r.below(3) {
		switch e := r.expr(n - 1); r.below(4) {
		case 0:
			out = append(out, set(r.name(), e))
		case 1:
			out = append(out, tell(r.name(), e))
		case 2:
			if n > 0 {
				out = append(out, branch(e, r.body(n-1), r.body(n-2)))
			}
		case 3:
			if n > 0 {
				out = append(out, loop(e, r.body(n-1)...))
			}
		}
	}
	return out
}

func (r *source) module() api.Module {
	m := api.Module{Name: r.name()}
	for range r.below(4) {
		m.Imports = append(m.Imports, r.name())
	}
	for range r.below(4) {
		m.Vars = append(m.Vars, api.Var{Name: r.name(), Level: r.name()})
	}
	for range r.below(4) {
		f := api.Fun{Name: r.name(), Body: r.body(r.below(4)), Result: r.expr(r.below(4))}
		for range r.below(5) {
			f.Params = append(f.Params, r.name())
		}
		m.Funs = append(m.Funs, f)
	}
	return m
}

// spread puts words behind one another with as much between them as there must be, or more.
func (r *source) spread(words []string) string {
	var s strings.Builder
	for i, w := range words {
		if i > 0 && isPlain(w) && isPlain(words[i-1]) {
			s.WriteString(r.one(" ", "\n"))
		}
		s.WriteString(r.one("", "", "", " ", "\n", " \n "))
		s.WriteString(w)
	}
	return s.String() + r.one("", " ", "\n\n")
}

// TestTextsComeBack: what tree.Print tells is read as what it was told of, whatever stands between the words.
func TestTextsComeBack(t *testing.T) {
	r := source{1}
	read := 0
	for range 3000 {
		m := r.module()
		text, e := tree.Print(m)
		if e != api.OK {
			t.Fatal(m, e)
		}
		words, _, _, _ := lex.Words(text)
		for _, s := range []string{text, r.spread(words)} {
			if len(s) > api.MaxText || words == nil {
				continue
			}
			expectModule(t, s, m)
			read++
		}
	}
	if read < 4000 {
		t.Error(read)
	}
}

// grammar has for each thing the ways in which it is put together; what it doesn't name is a word. It is P6 written anew, so that the reader is held against another one.
var grammar = map[string][]string{
	"MODULE":   {"( module NAME ITEMS )"},
	"ITEMS":    {"", "ITEM ITEMS"},
	"ITEM":     {"( import NAME )", "( var NAME NAME )", "( fun NAME ( NAMES ) COMMANDS E )"},
	"NAMES":    {"", "NAME NAMES"},
	"COMMANDS": {"", "COMMAND COMMANDS"},
	"COMMAND":  {"( set NAME E )", "( if E ( COMMANDS ) ( COMMANDS ) )", "( while E ( COMMANDS ) )", "( print NAME E )"},
	"E":        {"NUMBER", "OTHER", "( OP E E )", "( call NAME ES )"},
	"ES":       {"", "E ES"},
	"OP":       {"+", "-", "*", "<", "="},
}

// fits: may that word stand for that last part of the grammar?
func fits(part, w string) bool {
	digits := strings.Trim(w, "0123456789") == ""
	bracket := w == "(" || w == ")"
	switch part {
	case "NAME":
		return !bracket
	case "OTHER":
		return !bracket && !digits
	case "NUMBER":
		return digits && len(w) <= 6 && (w == "0" || w[0] != '0')
	}
	return part == w
}

// after tells all that may still be to come behind that word, of all that may be to come ahead of it.
func after(open []string, w string) []string {
	var out []string
	for len(open) > 0 {
		first, rest, _ := strings.Cut(open[0], " ")
		open = open[1:]
		if ways, ok := grammar[first]; ok {
			for _, way := range ways {
				open = append(open, strings.TrimSpace(way+" "+rest))
			}
		} else if fits(first, w) && !slices.Contains(out, rest) {
			out = append(out, rest)
		}
	}
	return out
}

// firstWrong finds, by the grammar, the number of the first word that can't stand; -1, if they are all those of a TEXT.
func firstWrong(words []string) int {
	open := []string{"MODULE"}
	depth := 0
	for i, w := range words {
		switch w {
		case "(":
			depth++
		case ")":
			depth--
		}
		open = after(open, w)
		if len(open) == 0 || depth > api.MaxDepth {
			return i
		}
	}
	if slices.Contains(open, "") {
		return -1
	}
	return len(words)
}

// TestAgainstTheGrammar changes words of texts, and asks the grammar which one can't stand.
func TestAgainstTheGrammar(t *testing.T) {
	r := source{2}
	all := []string{"(", ")", "(", ")", "module", "import", "var", "fun", "set", "if", "while", "print", "call", "+", "<", "x", "a.b", "7", "0", "07", "1234567", "1a"}
	wrong, right := 0, 0
	for range 6000 {
		text, _ := tree.Print(r.module())
		words, _, _, e := lex.Words(text)
		if e != api.OK || len(words) > 400 {
			continue
		}
		for range 1 + r.below(2) {
			at, gone := r.below(len(words)), r.below(2)
			var in []string
			if r.below(4) > 0 {
				in = []string{r.one(all...)}
			}
			words = slices.Replace(words, at, at+gone, in...)
		}
		s := r.spread(words)
		_, starts, _, e := lex.Words(s)
		if e != api.OK {
			continue
		}
		m, at, e := Parse(s)
		if i := firstWrong(words); i >= 0 {
			if want := append(starts, len(s))[i]; e != api.ErrSyntax || at != want {
				t.Fatalf("Parse(%q) = %d, %d; want %d", s, at, e, want)
			}
			wrong++
		} else {
			if e == api.ErrSyntax || at != 0 {
				t.Fatalf("Parse(%q) = %d, %d; want no ErrSyntax", s, at, e)
			}
			right++
		}
		if e != api.OK && !reflect.DeepEqual(m, api.Module{}) {
			t.Fatalf("Parse(%q) tells %+v beside %d", s, m, e)
		}
	}
	if wrong < 1000 || right < 200 {
		t.Error(wrong, right)
	}
}

// TestAnyBytes: P1.
func TestAnyBytes(t *testing.T) {
	r := source{3}
	for range 20000 {
		b := []byte(r.one(ordinary, result(nested(18)), "(module m (import b))"))
		for range 1 + r.below(4) {
			b[r.below(len(b))] = byte(r.below(256))
		}
		s := string(b)
		_, at, e := Parse(s)
		if at < 0 || at > len(s) || e == api.OK && at != 0 {
			t.Fatal(s, at, e)
		}
		if _, _, bad, le := lex.Words(s); le != api.OK && (e != le || at != bad) {
			t.Fatal(s, at, e, bad, le)
		}
	}
}

// fillRoom fills the room behind each list, to see whether another one shows it.
func fillRoom(m api.Module) {
	fill(m.Imports, "room")
	fill(m.Vars, api.Var{Name: "room"})
	fill(m.Funs, api.Fun{Name: "room"})
	for _, f := range m.Funs {
		fill(f.Params, "room")
		fillBody(f.Body)
		fillArgs(f.Result.Args)
	}
}

func fill[T any](list []T, with T) {
	room := list[len(list):cap(list)]
	for i := range room {
		room[i] = with
	}
}

func fillBody(body []api.Stmt) {
	fill(body, api.Stmt{Name: "room"})
	for _, s := range body {
		fillArgs(s.E.Args)
		fillBody(s.A)
		fillBody(s.B)
	}
}

func fillArgs(args []api.Expr) {
	fill(args, name("room"))
	for _, e := range args {
		fillArgs(e.Args)
	}
}

// TestNothingIsSharedOrKept: P2.
func TestNothingIsSharedOrKept(t *testing.T) {
	r := source{4}
	for range 300 {
		want := r.module()
		s, _ := tree.Print(want)
		if len(s) > api.MaxText {
			continue
		}
		m, _, _ := Parse(s)
		again, _, _ := Parse(s)
		fillRoom(m)
		if !same(m, want) || !same(again, want) {
			t.Fatalf("lists of %q share their room", s)
		}
		if len(m.Funs) > 0 {
			m.Funs[0].Name = "changed"
		}
		m.Imports = append(m.Imports[:0], "changed")
		expectError(t, s+")", len(s), api.ErrSyntax)
		expectModule(t, s, want)
		if !same(again, want) {
			t.Fatalf("two answers of %q share their lists", s)
		}
	}
}
