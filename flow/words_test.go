package flow

import (
	"reflect"
	"slices"
	"strings"
	"testing"

	"lowdown/api"
	"lowdown/lattice"
	"lowdown/names"
	"lowdown/run"
	"lowdown/solve"
	"lowdown/tree"
)

func lattices() []api.Lattice {
	return []api.Lattice{
		order("a", ""),
		two(),
		order("high low", "low<high"),
		diamond(),
		order("o a b c i", "o<a o<b o<c o<i a<b a<i b<i c<i"),
		order("i d c b a o", "o<a o<b o<c o<d o<i a<c a<d a<i b<d b<i c<i d<i"),
	}
}

// source makes worlds of all shapes, the same ones each time: each is such that Of has nothing to say against it.
type source struct {
	state uint64
	l     api.Lattice
}

func (r *source) below(n int) int {
	r.state = r.state*6364136223846793005 + 1442695040888963407
	return int((r.state >> 33) % uint64(n))
}

func (r *source) one(of ...string) string { return of[r.below(len(of))] }

func (r *source) name() string { return r.one("a", "b", "c", "d", "e", "u", "v", "w") }

// some takes a few of a list, in any order.
func (r *source) some(most int, of ...string) []string {
	out := slices.Clone(of)
	for i := range out {
		j := i + r.below(len(out)-i)
		out[i], out[j] = out[j], out[i]
	}
	return out[:r.below(most+1)]
}

// callee of a function, by how it is called there.
type callee struct {
	name   string
	params int
}

func (r *source) expr(depth int, of []callee) api.Expr {
	k := r.below(6)
	switch {
	case depth > 0 && k < 2:
		return api.Expr{Kind: api.EOp, Name: r.one("+", "-", "*", "<", "="), Args: []api.Expr{r.expr(depth-1, of), r.expr(depth-1, of)}}
	case depth > 0 && k < 4 && len(of) > 0:
		c := of[r.below(len(of))]
		e := api.Expr{Kind: api.ECall, Name: c.name}
		for range c.params {
			e.Args = append(e.Args, r.expr(depth-1, of))
		}
		return e
	case k == 0:
		return api.Expr{Kind: api.ENumber, N: r.below(4)}
	}
	return api.Expr{Kind: api.EName, Name: r.name()}
}

func (r *source) body(depth int, of []callee) []api.Stmt {
	var out []api.Stmt
	for range r.below(4) {
		switch k := r.below(5); {
		case k == 0:
			out = append(out, api.Stmt{Kind: api.SPrint, Name: r.one(r.l.Names...), E: r.expr(2, of)})
		case k == 1 && depth > 0:
			out = append(out, api.Stmt{Kind: api.SIf, E: r.expr(2, of), A: r.body(depth-1, of), B: r.body(depth-1, of)})
		case k == 2 && depth > 0:
			out = append(out, api.Stmt{Kind: api.SWhile, E: r.expr(2, of), A: r.body(depth-1, of)})
		default:
			out = append(out, api.Stmt{Kind: api.SSet, Name: r.name(), E: r.expr(2, of)})
		}
	}
	return out
}

// module m, that imports some of known, with vars at most.
func (r *source) module(name string, known []api.Module, vars int) api.Module {
	m := api.Module{Name: name}
	var of []callee
	for i, other := range known {
		// of two of one name the first one is called
		if r.below(3) > 0 && !slices.ContainsFunc(known[:i], func(o api.Module) bool { return o.Name == other.Name }) {
			m.Imports = append(m.Imports, other.Name)
			for _, f := range other.Funs {
				of = append(of, callee{other.Name + "." + f.Name, len(f.Params)})
			}
		}
	}
	for _, v := range r.some(vars, "a", "b", "c", "d", "e", "x") {
		m.Vars = append(m.Vars, api.Var{Name: v, Level: r.one(r.l.Names...)})
	}
	for _, fun := range r.some(4, "f", "g", "a", "m", "b") {
		f := api.Fun{Name: fun, Params: r.some(4, "a", "b", "u", "v", "w"), Body: r.body(2, of), Result: r.expr(2, of)}
		m.Funs = append(m.Funs, f)
		of = append(of, callee{fun, len(f.Params)})
	}
	return m
}

func (r *source) scheme(f api.Fun) api.Scheme {
	level := func() int { return r.below(len(r.l.Names)) }
	s := api.Scheme{Fun: f.Name, Result: api.Label{Mask: r.below(16), Level: level()}, PC: level()}
	for range f.Params {
		s.Bounds = append(s.Bounds, level())
	}
	for range r.below(3) {
		s.Effects = append(s.Effects, r.one("p:low", "p:high", "r:b.a", "w:b.a", "r:k.a", "w:m.a", "x"))
	}
	return s
}

func (r *source) schemes(funs []api.Fun) []api.Scheme {
	var out []api.Scheme
	for _, f := range funs {
		out = append(out, r.scheme(f))
	}
	return out
}

func (r *source) world(vars int) world {
	w := world{l: r.l}
	for _, other := range []string{"k", "b", "k"}[:r.below(4)] {
		w.known = append(w.known, r.module(other, nil, vars))
	}
	w.m = r.module("m", w.known, vars)
	for _, other := range w.known {
		w.schemes = append(w.schemes, r.schemes(other.Funs))
	}
	return w
}

// words is P15 and P16 once more, by what is gone through from outside: where a command stands is a list of questions,
// and sets are maps by names, numbered only when they are told.
type words struct {
	world
	k    int
	p    api.Problem
	low  int
	does map[string]int
}

type clause struct {
	vars  map[string]int
	level int
}

func (w *words) clause(level int, parts ...clause) clause {
	c := clause{map[string]int{}, level}
	for _, part := range parts {
		for name := range part.vars {
			c.vars[name] = 1
		}
		joined, _ := solve.Join(w.l, api.Label{Level: c.level}, api.Label{Level: part.level})
		c.level = joined.Level
	}
	return c
}

// moduleLevel of a name that is the module's.
func (w *words) moduleLevel(name string) (int, bool) {
	if slices.Contains(w.m.Funs[w.k].Params, name) {
		return 0, false
	}
	for _, v := range w.m.Vars {
		if v.Name == name {
			level, _ := lattice.Find(w.l, v.Level)
			return level, true
		}
	}
	return 0, false
}

func (w *words) schemeOf(call string) api.Scheme {
	mod, fun, dotted := strings.Cut(call, ".")
	if !dotted {
		for i, f := range w.m.Funs {
			if f.Name == call {
				return w.own[i]
			}
		}
	}
	for i, other := range w.known {
		if other.Name != mod {
			continue
		}
		for j, f := range other.Funs {
			if f.Name == fun {
				return w.schemes[i][j]
			}
		}
	}
	return api.Scheme{}
}

func (w *words) hangs(e api.Expr) clause {
	switch e.Kind {
	case api.EName:
		if level, ok := w.moduleLevel(e.Name); ok {
			return w.clause(level)
		}
		c := w.clause(w.low)
		c.vars[e.Name] = 1
		return c
	case api.EOp:
		return w.clause(w.low, w.hangs(e.Args[0]), w.hangs(e.Args[1]))
	case api.ECall:
		result := w.schemeOf(e.Name).Result
		var parts []clause
		for i, bit := range []int{1, 2, 4, 8} {
			if i < len(e.Args) && result.Mask&bit != 0 {
				parts = append(parts, w.hangs(e.Args[i]))
			}
		}
		return w.clause(result.Level, parts...)
	}
	return w.clause(w.low)
}

// at is PC: all questions around.
func (w *words) at(around []api.Expr, more ...clause) clause {
	for _, e := range around {
		more = append(more, w.hangs(e))
	}
	return w.clause(w.low, more...)
}

func (w *words) meet(name, deed string) {
	if _, ok := w.moduleLevel(name); ok {
		w.does[deed+":"+w.m.Name+"."+name]++
	} else if !slices.Contains(w.p.Names, name) {
		w.p.Names = append(w.p.Names, name)
	}
}

// look finds names and effects, ahead of all numbers.
func (w *words) look(e api.Expr) {
	if e.Kind == api.EName {
		w.meet(e.Name, "r")
	}
	for _, arg := range e.Args {
		w.look(arg)
	}
	if e.Kind == api.ECall {
		for _, text := range w.schemeOf(e.Name).Effects {
			w.does[text]++
		}
	}
}

func (w *words) lookAll(body []api.Stmt) {
	for _, s := range body {
		w.look(s.E)
		if s.Kind == api.SSet {
			w.meet(s.Name, "w")
		}
		if s.Kind == api.SPrint {
			w.does["p:"+s.Name]++
		}
		w.lookAll(s.A)
		w.lookAll(s.B)
	}
}

func (w *words) from(c clause) []int {
	var out []int
	for i, name := range w.p.Names {
		if c.vars[name] > 0 {
			out = append(out, i)
		}
	}
	return out
}

func (w *words) sink(c clause, level int, name string, effect bool) {
	w.p.Sinks = append(w.p.Sinks, api.Sink{From: w.from(c), Label: api.Label{Level: c.level}, Level: level, Name: name, Effect: effect})
}

func (w *words) sinks(e api.Expr, around []api.Expr) {
	for _, arg := range e.Args {
		w.sinks(arg, around)
	}
	if e.Kind == api.ECall {
		s := w.schemeOf(e.Name)
		for i, arg := range e.Args {
			w.sink(w.hangs(arg), s.Bounds[i], e.Name, false)
		}
		w.sink(w.at(around), s.PC, e.Name, true)
	}
}

func (w *words) goThrough(body []api.Stmt, around []api.Expr) {
	for _, s := range body {
		here := slices.Concat(around, []api.Expr{s.E})
		switch s.Kind {
		case api.SWhile:
			w.sinks(s.E, here)
			w.goThrough(s.A, here)
			continue
		case api.SIf:
			w.sinks(s.E, around)
			w.goThrough(s.A, here)
			w.goThrough(s.B, here)
			continue
		}
		w.sinks(s.E, around)
		c := w.at(around, w.hangs(s.E))
		if s.Kind == api.SPrint {
			level, _ := lattice.Find(w.l, s.Name)
			w.sink(c, level, s.Name, true)
		} else if level, ok := w.moduleLevel(s.Name); ok {
			w.sink(c, level, s.Name, true)
		} else {
			w.p.Cons = append(w.p.Cons, api.Constraint{To: slices.Index(w.p.Names, s.Name), From: w.from(c), Label: api.Label{Level: c.level}})
		}
	}
}

func byTheWords(in world, k int) api.Problem {
	w := &words{world: in, k: k, does: map[string]int{}}
	w.low, _, _ = lattice.Ends(w.l)
	f := w.m.Funs[k]
	w.p.Names = slices.Clone(f.Params)
	for i, bit := range []int{1, 2, 4, 8}[:len(f.Params)] {
		w.p.Cons = append(w.p.Cons, api.Constraint{To: i, Label: api.Label{Mask: bit, Level: w.low}})
	}
	w.lookAll(f.Body)
	w.look(f.Result)
	w.goThrough(f.Body, nil)
	w.sinks(f.Result, nil)
	c := w.hangs(f.Result)
	w.p.From, w.p.Label = w.from(c), api.Label{Level: c.level}
	for text := range w.does {
		w.p.Effects = append(w.p.Effects, text)
	}
	slices.Sort(w.p.Effects)
	return w.p
}

func TestAgainstTheWords(t *testing.T) {
	asked, sinks, cons := 0, 0, 0
	for i, l := range lattices() {
		r := source{uint64(i), l}
		for range 500 {
			w := r.world(5)
			if d, e := names.Check(w.l, w.m, w.known); e != api.OK || len(d) != 0 {
				t.Fatal(w, d, e)
			}
			for k := range w.m.Funs {
				w.own = r.schemes(w.m.Funs[:k])
				want := byTheWords(w, k)
				got, e := w.of(k)
				if e != api.OK || !same(got, want) {
					text, _ := tree.Print(w.m)
					t.Fatalf("%s: %d: %d\n%v\nwant\n%v", text, k, e, got, want)
				}
				asked, sinks, cons = asked+1, sinks+len(got.Sinks), cons+len(got.Cons)
			}
		}
	}
	if asked < 3000 || sinks < 3*asked || cons < 3*asked {
		t.Error("too few", asked, sinks, cons)
	}
}

// inferred gives each function of known and of m its own scheme: what Result hangs on, and what it does, by Of and solve.Least.
func inferred(t *testing.T, w world) world {
	t.Helper()
	w.schemes = nil
	for _, other := range w.known {
		w.schemes = append(w.schemes, inferAll(t, world{l: w.l, m: other}))
	}
	w.own = inferAll(t, w)
	return w
}

func inferAll(t *testing.T, w world) []api.Scheme {
	t.Helper()
	w.own = nil
	for k, f := range w.m.Funs {
		p, e := w.of(k)
		if e != api.OK {
			t.Fatal(w.m, e)
		}
		labels, e := solve.Least(w.l, len(p.Names), p.Cons)
		if e != api.OK {
			t.Fatal(p, e)
		}
		s := api.Scheme{Fun: f.Name, Result: p.Label, Bounds: make([]int, len(f.Params)), Effects: p.Effects}
		for _, v := range p.From {
			s.Result, _ = solve.Join(w.l, s.Result, labels[v])
		}
		w.own = append(w.own, s)
	}
	return w.own
}

// TestDidIsAmongEffects: whatever a function did in a run, it may do.
func TestDidIsAmongEffects(t *testing.T) {
	did := 0
	for i, l := range lattices() {
		r := source{uint64(100 + i), l}
		for range 150 {
			w := inferred(t, r.world(5))
			for k, f := range w.m.Funs {
				args := make([]int, len(f.Params))
				for j := range args {
					args[j] = r.below(3)
				}
				o, e := run.Run(append([]api.Module{w.m}, w.known...), "m", f.Name, args, nil, 500)
				if e != api.OK {
					continue
				}
				did += len(o.Did)
				for _, text := range o.Did {
					if !slices.Contains(w.own[k].Effects, text) {
						source, _ := tree.Print(w.m)
						t.Fatal(source, f.Name, text, w.own[k].Effects)
					}
				}
			}
		}
	}
	if did < 1000 {
		t.Error("too few", did)
	}
}

// TestResultHangsOnNoOther: without variables of modules, a Param on which Result doesn't hang makes no other Result.
func TestResultHangsOnNoOther(t *testing.T) {
	held := 0
	for i, l := range lattices() {
		r := source{uint64(200 + i), l}
		for range 300 {
			w := inferred(t, r.world(0))
			mods := append([]api.Module{w.m}, w.known...)
			for k, f := range w.m.Funs {
				args := []int{r.below(3), r.below(3), r.below(3), r.below(3)}[:len(f.Params)]
				first, e := run.Run(mods, "m", f.Name, args, nil, 300)
				for j := range args {
					other := slices.Clone(args)
					other[j] += 1 + r.below(2)
					second, again := run.Run(mods, "m", f.Name, other, nil, 300)
					if w.own[k].Result.Mask>>j&1 == 1 || e != api.OK || again != api.OK {
						continue
					}
					if held++; first.Result != second.Result {
						source, _ := tree.Print(w.m)
						t.Fatal(source, f.Name, args, other, first.Result, second.Result)
					}
				}
			}
		}
	}
	if held < 1000 {
		t.Error("too few", held)
	}
}

// roomy is a copy of list with spare room that is filled, so that a write to it is seen.
func roomy[T any](list []T, spare T) []T {
	out := make([]T, 0, len(list)+2)
	return append(append(out, list...), spare, spare)[:len(list)]
}

func roomySchemes(schemes []api.Scheme) []api.Scheme {
	out := roomy(schemes, api.Scheme{Fun: "spare"})
	for i, s := range out {
		out[i].Bounds = roomy(s.Bounds, 1)
		out[i].Effects = roomy(s.Effects, "spare")
	}
	return out
}

func roomyExpr(e api.Expr) api.Expr {
	e.Args = roomy(e.Args, api.Expr{Name: "spare"})
	for i, arg := range e.Args {
		e.Args[i] = roomyExpr(arg)
	}
	return e
}

func roomyBody(body []api.Stmt) []api.Stmt {
	out := roomy(body, api.Stmt{Name: "spare"})
	for i, s := range out {
		out[i].E, out[i].A, out[i].B = roomyExpr(s.E), roomyBody(s.A), roomyBody(s.B)
		if len(s.A) == 0 {
			out[i].A = s.A
		}
		if len(s.B) == 0 {
			out[i].B = s.B
		}
	}
	return out
}

func roomyModule(m api.Module) api.Module {
	m.Imports, m.Vars, m.Funs = roomy(m.Imports, "spare"), roomy(m.Vars, api.Var{Name: "spare"}), roomy(m.Funs, api.Fun{Name: "spare"})
	for i, f := range m.Funs {
		m.Funs[i] = api.Fun{Name: f.Name, Params: roomy(f.Params, "spare"), Body: roomyBody(f.Body), Result: roomyExpr(f.Result)}
	}
	return m
}

func roomyWorld(w world) world {
	out := world{l: api.Lattice{Names: roomy(w.l.Names, "spare"), Leq: roomy(w.l.Leq, []bool{true})}, m: roomyModule(w.m), own: roomySchemes(w.own)}
	for i, row := range out.l.Leq {
		out.l.Leq[i] = roomy(row, true)
	}
	out.known, out.schemes = roomy(w.known, api.Module{Name: "spare"}), roomy(w.schemes, []api.Scheme{{Fun: "spare"}})
	for i := range out.known {
		out.known[i], out.schemes[i] = roomyModule(out.known[i]), roomySchemes(out.schemes[i])
	}
	return out
}

// whole shows each list up to the end of its room, whatever it is in.
func whole(v reflect.Value, out *[]any) {
	switch v.Kind() {
	case reflect.Slice:
		v = v.Slice(0, v.Cap())
		for i := range v.Len() {
			whole(v.Index(i), out)
		}
	case reflect.Struct:
		for i := range v.NumField() {
			whole(v.Field(i), out)
		}
	case reflect.String:
		*out = append(*out, v.String())
	case reflect.Bool:
		*out = append(*out, v.Bool())
	default:
		*out = append(*out, v.Int())
	}
}

func allOf(things ...any) []any {
	var out []any
	for _, thing := range things {
		whole(reflect.ValueOf(thing), &out)
	}
	return out
}

func (w world) all() []any { return allOf(w.l, w.m, w.known, w.schemes, w.own) }

// fill writes ink all over a list and its room.
func fill[T any](list []T, ink T) {
	list = list[:cap(list)]
	for i := range list {
		list[i] = ink
	}
}

// isFull tells whether the ink is still there.
func isFull[T comparable](list []T, ink T) bool {
	list = list[:cap(list)]
	for i := range list {
		if list[i] != ink {
			return false
		}
	}
	return true
}

// spoil fills each list of a problem with an ink of its own: where two share memory one of them loses it.
func spoil(t *testing.T, p api.Problem) {
	t.Helper()
	froms := [][]int{p.From}
	for _, c := range p.Cons {
		froms = append(froms, c.From)
	}
	for _, s := range p.Sinks {
		froms = append(froms, s.From)
	}
	for i, from := range froms {
		fill(from, 1000+i)
	}
	fill(p.Names, "names")
	fill(p.Effects, "effects")
	for i, from := range froms {
		if !isFull(from, 1000+i) {
			t.Fatal("two lists of From share memory")
		}
	}
	if !isFull(p.Names, "names") || !isFull(p.Effects, "effects") {
		t.Fatal("Names and Effects share memory")
	}
	fill(p.Cons, api.Constraint{To: 1000})
	fill(p.Sinks, api.Sink{Level: 1000})
}

// TestNothingIsChangedOrShared: P2.
func TestNothingIsChangedOrShared(t *testing.T) {
	for i, l := range lattices() {
		r := source{uint64(300 + i), l}
		for range 60 {
			plain := r.world(5)
			for k := range plain.m.Funs {
				plain.own = r.schemes(plain.m.Funs[:k])
				w := roomyWorld(plain)
				was := w.all()
				want, _ := plain.of(k)
				first, e := w.of(k)
				second, again := w.of(k)
				if e != api.OK || again != api.OK || !same(first, want) || !same(second, want) {
					t.Fatal("hangs on spare room", e, again)
				}
				if !reflect.DeepEqual(w.all(), was) {
					t.Fatal("what was handed in is changed")
				}
				spoil(t, first)
				if !reflect.DeepEqual(w.all(), was) || !same(second, want) {
					t.Fatal("an answer shares memory with what was handed in, or with another answer")
				}
				if third, _ := w.of(k); !same(third, want) {
					t.Fatal("something is kept")
				}
			}
		}
	}
}
