package scheme

import (
	"cmp"
	"reflect"
	"slices"
	"strings"
	"testing"

	"lowdown/api"
	"lowdown/flow"
	"lowdown/lattice"
	"lowdown/names"
	"lowdown/run"
	"lowdown/solve"
	"lowdown/tree"
)

func lattices() []api.Lattice {
	return []api.Lattice{
		order("a", ""),
		two(),
		order("high low", "low<high"),
		diamond(),
		order("o a b c i", "o<a o<b o<c o<i a<b a<i b<i c<i"),
		order("i d c b a o", "o<a o<b o<c o<d o<i a<c a<d a<i b<d b<i c<i d<i"),
	}
}

// source makes worlds of all shapes, the same ones each time; Infer has no error to tell of them.
type source struct {
	state  uint64
	l      api.Lattice
	params []string
}

// newSource: Params may have names of the module's variables, and hide them.
func newSource(seed int, l api.Lattice) *source {
	return &source{uint64(seed), l, []string{"a", "b", "u", "v", "w"}}
}

func (r *source) below(n int) int {
	r.state = r.state*6364136223846793005 + 1442695040888963407
	return int((r.state >> 33) % uint64(n))
}

func (r *source) one(of ...string) string { return of[r.below(len(of))] }

func (r *source) level() int { return r.below(len(r.l.Names)) }

// some takes a few of a list, in any order.
func (r *source) some(most int, of []string) []string {
	out := slices.Clone(of)
	for i := range out {
		j := i + r.below(len(out)-i)
		out[i], out[j] = out[j], out[i]
	}
	return out[:r.below(most+1)]
}

// callee is a function, by how it is called.
type callee struct {
	name   string
	params int
}

func (r *source) expr(depth int, of []callee) api.Expr {
	switch k := r.below(6); {
	case depth > 0 && k < 2:
		return api.Expr{Kind: api.EOp, Name: r.one("+", "-", "*", "<", "="), Args: []api.Expr{r.expr(depth-1, of), r.expr(depth-1, of)}}
	case depth > 0 && k == 2 && len(of) > 0:
		return r.call(depth, of)
	case k < 2:
		return api.Expr{Kind: api.ENumber, N: r.below(4)}
	}
	return name(r.one("a", "b", "c", "d", "u", "v", "w", "s", "t"))
}

func (r *source) call(depth int, of []callee) api.Expr {
	c := of[r.below(len(of))]
	e := api.Expr{Kind: api.ECall, Name: c.name}
	for range c.params {
		e.Args = append(e.Args, r.expr(depth-1, of))
	}
	return e
}

func (r *source) body(depth int, of []callee) []api.Stmt {
	var out []api.Stmt
	for range r.below(3) {
		s := api.Stmt{E: r.expr(2, of)}
		switch k := r.below(6); {
		case k == 0:
			s.Kind, s.Name = api.SPrint, r.one(r.l.Names...)
		case k == 1 && depth > 0:
			s.Kind, s.A, s.B = api.SIf, r.body(depth-1, of), r.body(depth-1, of)
		case k == 2 && depth > 0:
			s.Kind, s.A = api.SWhile, r.body(depth-1, of)
		default:
			s.Kind, s.Name = api.SSet, r.one("a", "b", "c", "d", "u", "v", "w", "s", "t")
		}
		out = append(out, s)
	}
	return out
}

// module imports all of known.
func (r *source) module(name string, known []api.Module) api.Module {
	m := api.Module{Name: name}
	var of []callee
	for _, other := range known {
		m.Imports = append(m.Imports, other.Name)
		for _, f := range other.Funs {
			of = append(of, callee{other.Name + "." + f.Name, len(f.Params)})
		}
	}
	for _, v := range r.some(3, []string{"a", "b", "c", "d"}) {
		m.Vars = append(m.Vars, api.Var{Name: v, Level: r.one(r.l.Names...)})
	}
	for _, fun := range r.some(3, []string{"f", "g", "a", "m"}) {
		f := api.Fun{Name: fun, Params: r.some(4, r.params), Body: r.body(2, of), Result: r.expr(2, of)}
		m.Funs = append(m.Funs, f)
		of = append(of, callee{fun, len(f.Params)})
	}
	return m
}

// anySchemes are such as nobody need have found.
func (r *source) anySchemes(funs []api.Fun) []api.Scheme {
	var out []api.Scheme
	for _, f := range funs {
		s := api.Scheme{Fun: "any", Result: api.Label{Mask: r.below(16), Level: r.level()}, PC: r.level(), Effects: []string{r.one("z", "p:a", "r:b.a"), "y"}}
		for range f.Params {
			s.Bounds = append(s.Bounds, r.level())
		}
		out = append(out, s)
	}
	return out
}

func (r *source) anyWorld() world {
	w := world{l: r.l}
	for _, other := range []string{"k", "b"}[:r.below(3)] {
		w.known = append(w.known, r.module(other, nil))
		w.schemes = append(w.schemes, r.anySchemes(w.known[len(w.known)-1].Funs))
	}
	w.m = r.module("m", w.known)
	return w
}

// goodWorld is one whose modules are accepted, with the schemes that were found.
func (r *source) goodWorld() (world, []api.Scheme) {
	w := world{l: r.l}
	for _, other := range []string{"k", "b"}[:r.below(3)] {
		m, schemes := r.good(other, w)
		w.known, w.schemes = append(w.known, m), append(w.schemes, schemes)
	}
	m, schemes := r.good("m", w)
	w.m = m
	return w, schemes
}

func (r *source) good(name string, w world) (api.Module, []api.Scheme) {
	if name != "m" {
		w.known, w.schemes = nil, nil
	}
	for {
		w.m = r.module(name, w.known)
		if schemes, _, _ := w.infer(); len(schemes) > 0 {
			return w.m, schemes
		}
	}
}

// joinAll goes by the lattice alone.
func joinAll(l api.Lattice, a api.Label, from []int, labels []api.Label) api.Label {
	for _, v := range from {
		level, _ := lattice.Join(l, a.Level, labels[v].Level)
		a = api.Label{Mask: a.Mask | labels[v].Mask, Level: level}
	}
	return a
}

// leastByRounds goes round all constraints until nothing goes up any more.
func leastByRounds(l api.Lattice, p api.Problem) []api.Label {
	bottom, _, _ := lattice.Ends(l)
	labels := slices.Repeat([]api.Label{{Level: bottom}}, len(p.Names))
	for changed := true; changed; {
		changed = false
		for _, c := range p.Cons {
			up := joinAll(l, joinAll(l, c.Label, c.From, labels), []int{c.To}, labels)
			changed = changed || up != labels[c.To]
			labels[c.To] = up
		}
	}
	return labels
}

// highestBelow all of levels: with none of them that is the level above all.
func highestBelow(l api.Lattice, levels []int) int {
	below := func(a int) bool {
		return !slices.ContainsFunc(levels, func(level int) bool { return !l.Leq[a][level] })
	}
	best := -1
	for a := range l.Names {
		if below(a) && (best < 0 || l.Leq[best][a]) {
			best = a
		}
	}
	return best
}

// byTheWords is P17 once more: what a sink's label has is kept as lists of levels, bit by bit.
func byTheWords(t *testing.T, w world) ([]api.Scheme, []api.Diag) {
	t.Helper()
	var own []api.Scheme
	wrong := map[api.Diag]int{}
	for k, f := range w.m.Funs {
		p, e := flow.Of(w.l, w.m, k, w.known, w.schemes, own)
		if e != api.OK {
			t.Fatal(w, e)
		}
		labels := leastByRounds(w.l, p)
		var effects []int
		goes := make([][]int, 4)
		for _, sink := range p.Sinks {
			a := joinAll(w.l, sink.Label, sink.From, labels)
			if join, _ := lattice.Join(w.l, a.Level, sink.Level); join != sink.Level {
				wrong[api.Diag{Code: 6, Fun: f.Name, Name: sink.Name}]++
			}
			for i, bit := range []int{1, 2, 4, 8} {
				if a.Mask&bit != 0 {
					goes[i] = append(goes[i], sink.Level)
				}
			}
			if sink.Effect {
				effects = append(effects, sink.Level)
			}
		}
		s := api.Scheme{Fun: f.Name, Result: joinAll(w.l, p.Label, p.From, labels), PC: highestBelow(w.l, effects), Effects: p.Effects}
		for i := range f.Params {
			s.Bounds = append(s.Bounds, highestBelow(w.l, goes[i]))
		}
		own = append(own, s)
	}
	var diags []api.Diag
	for d := range wrong {
		diags = append(diags, d)
	}
	slices.SortFunc(diags, func(a, b api.Diag) int { return cmp.Compare(a.Fun+" "+a.Name, b.Fun+" "+b.Name) })
	if len(diags) > 0 {
		own = nil
	}
	return own, diags
}

// same takes lists without anything for one another, be they nil or not.
func same(a, b []api.Scheme) bool {
	return slices.EqualFunc(a, b, func(x, y api.Scheme) bool {
		return x.Fun == y.Fun && x.Result == y.Result && slices.Equal(x.Bounds, y.Bounds) && x.PC == y.PC && slices.Equal(x.Effects, y.Effects)
	})
}

func TestAgainstTheWords(t *testing.T) {
	good, bad := 0, 0
	for i, l := range lattices() {
		r := newSource(i, l)
		for range 1000 {
			w := r.anyWorld()
			if d, e := names.Check(w.l, w.m, w.known); e != api.OK || len(d) != 0 {
				t.Fatal(w, d, e)
			}
			want, wrong := byTheWords(t, w)
			s, d, e := w.infer()
			if e != api.OK || !same(s, want) || !slices.Equal(d, wrong) {
				text, _ := tree.Print(w.m)
				t.Fatalf("%s: %d\n%v %v\nwant\n%v %v", text, e, s, d, want, wrong)
			}
			good, bad = good+len(s), bad+len(d)
		}
	}
	if good < 1000 || bad < 1000 {
		t.Error("too few", good, bad)
	}
}

// levelOf what a text of P13 is about, of one that is set or printed.
func levelOf(w world, deed string) (int, bool) {
	kind, what, _ := strings.Cut(deed, ":")
	if kind == "p" {
		return slices.Index(w.l.Names, what), true
	}
	mod, variable, _ := strings.Cut(what, ".")
	for _, m := range append([]api.Module{w.m}, w.known...) {
		for _, v := range m.Vars {
			if m.Name == mod && v.Name == variable {
				return slices.Index(w.l.Names, v.Level), kind == "w"
			}
		}
	}
	return 0, false
}

// TestNothingBelow: what a function may do is at its PC or above; where it may be called is no higher than what it may be handed.
func TestNothingBelow(t *testing.T) {
	deeds := 0
	for i, l := range lattices() {
		r := newSource(100+i, l)
		for range 100 {
			w, schemes := r.goodWorld()
			for _, s := range schemes {
				for _, deed := range s.Effects {
					if level, done := levelOf(w, deed); done {
						if deeds++; !l.Leq[s.PC][level] {
							t.Fatal(s, deed)
						}
					}
				}
				for _, bound := range s.Bounds {
					if !l.Leq[s.PC][bound] {
						t.Fatal(s)
					}
				}
			}
		}
	}
	if deeds < 500 {
		t.Error("too few", deeds)
	}
}

// handed is function k of a module with nothing but it and those ahead, when it is called in a place of level pc with Args of these levels:
// variables of the module stand for them, and the Params are its own.
func handed(w world, k int, args []int, pc int) world {
	f := w.m.Funs[k]
	place := api.Stmt{Kind: api.SIf, E: name("place"), A: slices.Clone(f.Body)}
	place.A = append(place.A, api.Stmt{Kind: api.SSet, Name: "result", E: f.Result})
	vars := append(slices.Clone(w.m.Vars), api.Var{Name: "place", Level: w.l.Names[pc]})
	var body []api.Stmt
	for i, param := range f.Params {
		vars = append(vars, api.Var{Name: "arg" + param, Level: w.l.Names[args[i]]})
		body = append(body, api.Stmt{Kind: api.SSet, Name: param, E: name("arg" + param)})
	}
	w.m.Vars = vars
	w.m.Funs = append(slices.Clone(w.m.Funs[:k]), api.Fun{Name: f.Name, Body: append(body, place), Result: name("result")})
	return w
}

// TestBoundsAreExact: of whatever levels its Args are, and where it is called, a function that is written out there is accepted
// if its scheme lets these go, and else is not; and tells what its scheme says.
func TestBoundsAreExact(t *testing.T) {
	accepted, refused := 0, 0
	for i, l := range lattices() {
		r := newSource(200+i, l)
		r.params = []string{"u", "v", "w", "s"}
		for range 300 {
			w, schemes := r.goodWorld()
			for k, s := range schemes {
				pc := r.level()
				args := []int{r.level(), r.level(), r.level(), r.level()}[:len(s.Bounds)]
				fits := l.Leq[pc][s.PC]
				want := solve.Joined(l, api.Label{Level: s.Result.Level}, api.Label{Level: pc})
				for i, level := range args {
					fits = fits && l.Leq[level][s.Bounds[i]]
					if s.Result.Mask>>i&1 == 1 {
						want = solve.Joined(l, want, api.Label{Level: level})
					}
				}
				got, d, e := handed(w, k, args, pc).infer()
				if e != api.OK || (len(d) == 0) != fits || fits && got[k].Result != want {
					text, _ := tree.Print(w.m)
					t.Fatal(text, s, l.Names, args, pc, got, d, e)
				}
				if fits {
					accepted++
				} else {
					refused++
				}
			}
		}
	}
	if accepted < 200 || refused < 200 {
		t.Error("too few", accepted, refused)
	}
}

// seen is what one of that level sees of an outcome, but for the result.
func seen(w world, o run.Outcome, level int) ([]api.Cell, []api.Print) {
	sees := func(a int) bool { return w.l.Leq[a][level] }
	var cells []api.Cell
	for _, c := range o.Store {
		if a, _ := levelOf(w, "w:"+c.Mod+"."+c.Name); sees(a) {
			cells = append(cells, c)
		}
	}
	var prints []api.Print
	for _, p := range o.Prints {
		if sees(slices.Index(w.l.Names, p.Level)) {
			prints = append(prints, p)
		}
	}
	return cells, prints
}

// store has a value for each variable.
func (r *source) store(w world) []api.Cell {
	var out []api.Cell
	for _, m := range append([]api.Module{w.m}, w.known...) {
		for _, v := range m.Vars {
			out = append(out, api.Cell{Mod: m.Name, Name: v.Name, Value: r.below(3)})
		}
	}
	return out
}

// hide changes all that one of that level doesn't see; args have levels.
func (r *source) hide(w world, store []api.Cell, args, levels []int, level int) ([]api.Cell, []int) {
	store, args = slices.Clone(store), slices.Clone(args)
	for i, c := range store {
		if a, _ := levelOf(w, "w:"+c.Mod+"."+c.Name); !w.l.Leq[a][level] {
			store[i].Value = r.below(3)
		}
	}
	for i, a := range levels {
		if !w.l.Leq[a][level] {
			args[i] = r.below(3)
		}
	}
	return store, args
}

// TestOneSeesTheSame: of an accepted function, whatever was hidden at the beginning was.
func TestOneSeesTheSame(t *testing.T) {
	held, results, hidden := 0, 0, 0
	for i, l := range lattices() {
		r := newSource(300+i, l)
		for range 300 {
			w, schemes := r.goodWorld()
			mods := append([]api.Module{w.m}, w.known...)
			for _, s := range schemes {
				level, told := r.level(), s.Result.Level
				var args, levels []int
				for i, bound := range s.Bounds {
					a, _ := lattice.Meet(l, bound, r.level())
					args, levels = append(args, r.below(3)), append(levels, a)
					if s.Result.Mask>>i&1 == 1 {
						told = lattice.Joined(l, told, a)
					}
				}
				store := r.store(w)
				otherStore, otherArgs := r.hide(w, store, args, levels, level)
				first, e := run.Run(mods, "m", s.Fun, args, store, 500)
				second, again := run.Run(mods, "m", s.Fun, otherArgs, otherStore, 500)
				if e != api.OK || again != api.OK {
					continue
				}
				held++
				if !slices.Equal(store, otherStore) || !slices.Equal(args, otherArgs) {
					hidden++
				}
				cells, prints := seen(w, first, level)
				otherCells, otherPrints := seen(w, second, level)
				sameResult := true
				if l.Leq[told][level] {
					results++
					sameResult = first.Result == second.Result
				}
				if !sameResult || !slices.Equal(cells, otherCells) || !slices.Equal(prints, otherPrints) {
					text, _ := tree.Print(w.m)
					t.Fatal(text, s, level, args, otherArgs, store, otherStore, first, second)
				}
				for _, deed := range first.Did {
					if !slices.Contains(s.Effects, deed) {
						t.Fatal(s, deed)
					}
				}
			}
		}
	}
	if held < 1000 || results < 500 || hidden < 500 {
		t.Error("too few", held, results, hidden)
	}
}

// ink fills what it is given, so that a write to it is seen.
func ink(v reflect.Value) {
	switch v.Kind() {
	case reflect.String:
		v.SetString("spare")
	case reflect.Int:
		v.SetInt(1)
	case reflect.Bool:
		v.SetBool(true)
	case reflect.Struct:
		for i := range v.NumField() {
			ink(v.Field(i))
		}
	}
}

// copied is a copy with as much inked room behind each list; with toEnd what was room is part of the list.
func copied(v reflect.Value, room int, toEnd bool) reflect.Value {
	out := reflect.New(v.Type()).Elem()
	switch v.Kind() {
	case reflect.Slice:
		if toEnd {
			v = v.Slice(0, v.Cap())
		}
		n := v.Len()
		out = reflect.MakeSlice(v.Type(), n+room, n+room)
		for i := range n {
			out.Index(i).Set(copied(v.Index(i), room, toEnd))
		}
		for i := range room {
			ink(out.Index(n + i))
		}
		return out.Slice(0, n)
	case reflect.Struct:
		for i := range v.NumField() {
			out.Field(i).Set(copied(v.Field(i), room, toEnd))
		}
	default:
		out.Set(v)
	}
	return out
}

func roomy[T any](thing T) T { return copied(reflect.ValueOf(thing), 2, false).Interface().(T) }

func toEnd[T any](thing T) T { return copied(reflect.ValueOf(thing), 0, true).Interface().(T) }

// span is the memory of a list, its room too.
type span struct{ from, to uintptr }

func spans(v reflect.Value) []span {
	var out []span
	switch v.Kind() {
	case reflect.Slice:
		v = v.Slice(0, v.Cap())
		if v.Len() > 0 {
			out = append(out, span{v.Pointer(), v.Pointer() + uintptr(v.Len())*v.Type().Elem().Size()})
		}
		for i := range v.Len() {
			out = append(out, spans(v.Index(i))...)
		}
	case reflect.Struct:
		for i := range v.NumField() {
			out = append(out, spans(v.Field(i))...)
		}
	}
	return out
}

func share(things ...any) bool {
	var all []span
	for _, thing := range things {
		all = append(all, spans(reflect.ValueOf(thing))...)
	}
	slices.SortFunc(all, func(a, b span) int { return cmp.Compare(a.from, b.from) })
	for i := range len(all) - 1 {
		if all[i].to > all[i+1].from {
			return true
		}
	}
	return false
}

// input is a world that reflect may go through.
type input struct {
	L       api.Lattice
	M       api.Module
	Known   []api.Module
	Schemes [][]api.Scheme
}

// TestNothingIsChangedOrShared: P2.
func TestNothingIsChangedOrShared(t *testing.T) {
	good, bad := 0, 0
	for i, l := range lattices() {
		r := newSource(400+i, l)
		for range 150 {
			plain := r.anyWorld()
			if r.below(4) == 0 && len(plain.m.Funs) > 0 {
				plain.m.Imports = append(plain.m.Imports, "gone") // then names.Check has something to say
			}
			in := roomy(input{plain.l, plain.m, plain.known, plain.schemes})
			was := toEnd(in)
			w := world{in.L, in.M, in.Known, in.Schemes}
			want, wrong, _ := plain.infer()
			s, d, e := w.infer()
			again, dAgain, _ := w.infer()
			if e != api.OK || !same(s, want) || !same(again, want) || !slices.Equal(d, wrong) || !slices.Equal(dAgain, wrong) {
				t.Fatal("it hangs on spare room, or on what was asked before", s, d, e)
			}
			if !reflect.DeepEqual(toEnd(in), was) {
				t.Fatal("what was handed in is changed")
			}
			if share(in, s, d, again, dAgain) {
				t.Fatal("an answer shares memory")
			}
			good, bad = good+len(s), bad+len(d)
		}
	}
	if good < 100 || bad < 100 {
		t.Error("too few", good, bad)
	}
}
