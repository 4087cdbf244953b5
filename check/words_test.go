package check

import (
	"cmp"
	"reflect"
	"slices"
	"testing"

	"lowdown/api"
	"lowdown/lattice"
	"lowdown/low"
	"lowdown/run"
	"lowdown/scheme"
	"lowdown/tree"
)

func lattices() []api.Lattice {
	return []api.Lattice{
		order("a", ""),
		two(),
		order("high low", "low<high"),
		diamond(),
		order("o a b c i", "o<a o<b o<c o<i a<b a<i b<i c<i"),
		order("i d c b a o", "o<a o<b o<c o<d o<i a<c a<d a<i b<d b<i c<i d<i"),
	}
}

// source makes modules of all shapes, the same ones each time.
type source struct {
	state uint64
	l     api.Lattice
}

func (r *source) below(n int) int {
	r.state = r.state*6364136223846793005 + 1442695040888963407
	return int((r.state >> 33) % uint64(n))
}

func (r *source) one(of ...string) string { return of[r.below(len(of))] }

// some takes a few of a list, in any order.
func (r *source) some(most int, of ...string) []string {
	r.shuffle(len(of), func(i, j int) { of[i], of[j] = of[j], of[i] })
	return of[:r.below(min(most, len(of))+1)]
}

func (r *source) shuffle(n int, swap func(i, j int)) {
	for i := range n {
		swap(i, i+r.below(n-i))
	}
}

// callee is a function, by how it is called.
type callee struct {
	name   string
	params int
}

func name(s string) api.Expr { return api.Expr{Kind: api.EName, Name: s} }

func (r *source) expr(depth int, of []callee) api.Expr {
	switch k := r.below(6); {
	case depth > 0 && k < 2:
		return api.Expr{Kind: api.EOp, Name: r.one("+", "-", "*", "<", "="), Args: []api.Expr{r.expr(depth-1, of), r.expr(depth-1, of)}}
	case depth > 0 && k < 4 && len(of) > 0:
		c := of[r.below(len(of))]
		e := api.Expr{Kind: api.ECall, Name: c.name}
		for range c.params {
			e.Args = append(e.Args, r.expr(depth-1, of))
		}
		return e
	case k < 2:
		return api.Expr{Kind: api.ENumber, N: r.below(4)}
	}
	return name(r.one("a", "b", "u", "v", "s"))
}

func (r *source) body(depth int, of []callee) []api.Stmt {
	var out []api.Stmt
	for range r.below(3) {
		s := api.Stmt{E: r.expr(2, of)}
		switch k := r.below(6); {
		case k == 0:
			s.Kind, s.Name = api.SPrint, r.one(r.l.Names...)
		case k == 1 && depth > 0:
			s.Kind, s.A, s.B = api.SIf, r.body(depth-1, of), r.body(depth-1, of)
		case k == 2 && depth > 0:
			s.Kind, s.A = api.SWhile, r.body(depth-1, of)
		default:
			s.Kind, s.Name = api.SSet, r.one("a", "b", "u", "v", "s")
		}
		out = append(out, s)
	}
	return out
}

// module imports some of those ahead, and calls their functions.
func (r *source) module(name string, ahead []api.Module) api.Module {
	m := api.Module{Name: name}
	var of []callee
	for _, other := range ahead {
		if r.below(2) == 0 {
			m.Imports = append(m.Imports, other.Name)
			for _, f := range other.Funs {
				of = append(of, callee{other.Name + "." + f.Name, len(f.Params)})
			}
		}
	}
	for _, v := range r.some(2, "a", "b") {
		m.Vars = append(m.Vars, api.Var{Name: v, Level: r.one(r.l.Names...)})
	}
	for _, fun := range r.some(2, "f", "g", "a") {
		f := api.Fun{Name: fun, Params: r.some(2, "a", "u", "v"), Body: r.body(1, of), Result: r.expr(2, of)}
		m.Funs = append(m.Funs, f)
		of = append(of, callee{fun, len(f.Params)})
	}
	return m
}

// spoil makes a module one that is no good, or not even looked at, or goes round.
func (r *source) spoil(m *api.Module) {
	switch r.below(7) {
	case 0:
		m.Imports = append(m.Imports, r.one("ma", "mb", "mc", "md", "me", "mf"))
	case 1:
		m.Imports = append(m.Imports, m.Imports[:min(1, len(m.Imports))]...)
	case 2:
		m.Imports = append(m.Imports, "gone")
	case 3:
		m.Vars = append(m.Vars, api.Var{Name: "c", Level: "none"})
	case 4:
		m.Funs = append(m.Funs, api.Fun{Name: "wrong", Result: api.Expr{Kind: api.ECall, Name: r.one("wrong", "ma.f", "mb.g", "gone.f")}})
	case 5:
		m.Funs = append(m.Funs, sets(41, 41))
	case 6:
		m.Imports = slices.DeleteFunc(m.Imports, func(string) bool { return r.below(2) == 0 })
	}
}

// modules come in any order.
func (r *source) modules(next func(name string, ahead []api.Module) api.Module) []api.Module {
	var mods []api.Module
	for _, name := range []string{"ma", "mb", "mc", "md", "me", "mf"}[:r.below(7)] {
		mods = append(mods, next(name, mods))
	}
	r.shuffle(len(mods), func(i, j int) { mods[i], mods[j] = mods[j], mods[i] })
	return mods
}

// any has now and then a module that is spoiled.
func (r *source) any() []api.Module {
	return r.modules(func(name string, ahead []api.Module) api.Module {
		m := r.module(name, ahead)
		if r.below(4) == 0 {
			r.spoil(&m)
		}
		return m
	})
}

// good has modules alone that are accepted.
func (r *source) good() []api.Module {
	return r.modules(func(name string, ahead []api.Module) api.Module {
		for {
			m := r.module(name, ahead)
			if a, _ := Answer(r.l, append(slices.Clone(ahead), m), name); len(a.Schemes) > 0 {
				return m
			}
		}
	})
}

// imports: whether module i comes to module j in one step.
func imports(mods []api.Module, i, j int) bool {
	return slices.Contains(mods[i].Imports, mods[j].Name)
}

// reachByRounds goes by pairs: whoever comes to one comes to all that this one comes to.
func reachByRounds(mods []api.Module, name string) []string {
	comes := map[[2]int]int{}
	for i := range mods {
		for j := range mods {
			if imports(mods, i, j) {
				comes[[2]int{i, j}] = 1
			}
		}
	}
	for range mods {
		for i := range mods {
			for j := range mods {
				for k := range mods {
					if comes[[2]int{i, j}]*comes[[2]int{j, k}] == 1 {
						comes[[2]int{i, k}] = 1
					}
				}
			}
		}
	}
	var out []string
	for i := range mods {
		for j := range mods {
			if mods[i].Name == name && comes[[2]int{i, j}] == 1 {
				out = append(out, mods[j].Name)
			}
		}
	}
	slices.Sort(out)
	return out
}

// byTheWords is P20 once more, asked anew for each import each time.
func byTheWords(t *testing.T, l api.Lattice, mods []api.Module, name string) (api.Answer, api.Errno) {
	t.Helper()
	i := slices.IndexFunc(mods, func(m api.Module) bool { return m.Name == name })
	if slices.Contains(reachByRounds(mods, name), name) {
		return api.Answer{Diags: []api.Diag{{Code: 8, Name: name}}}, api.OK
	}
	var known []api.Module
	var schemes [][]api.Scheme
	var diags []api.Diag
	for j, other := range mods {
		if j == i {
			continue
		}
		known = append(known, other)
		if imports(mods, i, j) {
			a, e := byTheWords(t, l, mods, other.Name)
			if e != api.OK {
				return api.Answer{}, api.ErrLarge
			}
			if len(a.Diags) > 0 {
				diags = append(diags, api.Diag{Code: 7, Name: other.Name})
			}
			schemes = append(schemes, a.Schemes)
			continue
		}
		var list []api.Scheme
		for _, f := range other.Funs {
			list = append(list, api.Scheme{Bounds: make([]int, len(f.Params))})
		}
		schemes = append(schemes, list)
	}
	if len(diags) > 0 {
		slices.SortFunc(diags, func(a, b api.Diag) int { return cmp.Compare(a.Name, b.Name) })
		return api.Answer{Diags: diags}, api.OK
	}
	s, d, e := scheme.Infer(l, mods[i], known, schemes)
	if e != api.OK && e != api.ErrLarge {
		t.Fatal("Infer has another error", e)
	}
	return api.Answer{Schemes: s, Diags: d}, e
}

// same takes lists without anything for one another, be they nil or not.
func same(a, b api.Answer) bool {
	return slices.Equal(a.Diags, b.Diags) && slices.EqualFunc(a.Schemes, b.Schemes, func(x, y api.Scheme) bool {
		return x.Fun == y.Fun && x.Result == y.Result && slices.Equal(x.Bounds, y.Bounds) && x.PC == y.PC && slices.Equal(x.Effects, y.Effects)
	})
}

func texts(mods []api.Module) []string {
	var out []string
	for _, m := range mods {
		s, _ := tree.Print(m)
		out = append(out, s)
	}
	return out
}

// TestAgainstTheWords counts what was told, so that all of it is.
func TestAgainstTheWords(t *testing.T) {
	told := map[string]int{}
	for i, l := range lattices() {
		r := &source{uint64(i), l}
		for range 700 {
			mods := r.any()
			if e := Form(l, mods); e != api.OK {
				t.Fatal(texts(mods), e)
			}
			for _, m := range mods {
				if got, want := Reach(mods, m.Name), reachByRounds(mods, m.Name); !slices.Equal(got, want) {
					t.Fatal(texts(mods), m.Name, got, want)
				}
				want, wantErrno := byTheWords(t, l, mods, m.Name)
				a, e := Answer(l, mods, m.Name)
				if e != wantErrno || !same(a, want) {
					t.Fatalf("%q %s: %d\n%v\nwant %d\n%v", texts(mods), m.Name, e, lines(l, a), wantErrno, lines(l, want))
				}
				count(told, a, e, len(m.Imports) > 0)
			}
		}
	}
	for _, what := range []string{"good", "good with imports", "large", "1", "2", "3", "4", "6", "7", "8"} {
		if told[what] < 50 {
			t.Error("too few", what, told)
		}
	}
}

func count(told map[string]int, a api.Answer, e api.Errno, imports bool) {
	if e == api.ErrLarge {
		told["large"]++
	}
	if len(a.Schemes) > 0 {
		told["good"]++
	}
	if len(a.Schemes) > 0 && imports {
		told["good with imports"]++
	}
	for _, d := range a.Diags {
		told[string(rune('0'+d.Code))]++
	}
}

// TestOthersAreNoMatter: nor is the order; the module, and what it comes to, tell it all.
func TestOthersAreNoMatter(t *testing.T) {
	fewer := 0
	for i, l := range lattices() {
		r := &source{uint64(100 + i), l}
		for range 200 {
			mods := r.any()
			for _, m := range mods {
				want, wantErrno := Answer(l, mods, m.Name)
				reach := Reach(mods, m.Name)
				few := slices.DeleteFunc(slices.Clone(mods), func(other api.Module) bool {
					return other.Name != m.Name && !slices.Contains(reach, other.Name)
				})
				r.shuffle(len(few), func(i, j int) { few[i], few[j] = few[j], few[i] })
				if a, e := Answer(l, few, m.Name); e != wantErrno || !same(a, want) {
					t.Fatalf("%q %s: %d\n%v\nwant %d\n%v", texts(mods), m.Name, e, lines(l, a), wantErrno, lines(l, want))
				}
				fewer += len(mods) - len(few)
			}
		}
	}
	if fewer < 1000 {
		t.Error("too few", fewer)
	}
}

// hide changes all cells that one of that level doesn't see.
func (r *source) hide(t *testing.T, mods []api.Module, store []api.Cell, level int) []api.Cell {
	t.Helper()
	store = slices.Clone(store)
	for i, c := range store {
		seen, e := low.Cells(r.l, mods, []api.Cell{c}, level)
		if e != api.OK {
			t.Fatal(e)
		}
		if len(seen) == 0 {
			store[i].Value = r.below(3)
		}
	}
	return store
}

func (r *source) store(mods []api.Module) []api.Cell {
	var out []api.Cell
	for _, m := range mods {
		for _, v := range m.Vars {
			out = append(out, api.Cell{Mod: m.Name, Name: v.Name, Value: r.below(3)})
		}
	}
	return out
}

// sameSeen of two ends, but for the results.
func sameSeen(l api.Lattice, mods []api.Module, a, b run.Outcome, level int) bool {
	cells, _ := low.Cells(l, mods, a.Store, level)
	otherCells, _ := low.Cells(l, mods, b.Store, level)
	prints, _ := low.Prints(l, a.Prints, level)
	otherPrints, _ := low.Prints(l, b.Prints, level)
	return slices.Equal(cells, otherCells) && slices.Equal(prints, otherPrints)
}

// handed are Args no higher than a function takes, and others that one of that level can't tell from them; and how high its result is.
func (r *source) handed(s api.Scheme, level int) (args, others []int, told int) {
	told = s.Result.Level
	for i, bound := range s.Bounds {
		a, _ := lattice.Meet(r.l, bound, r.below(len(r.l.Names)))
		value := r.below(3)
		args, others = append(args, value), append(others, value)
		if !r.l.Leq[a][level] {
			others[i] = r.below(3)
		}
		if s.Result.Mask>>i&1 == 1 {
			told, _ = lattice.Join(r.l, told, a)
		}
	}
	return args, others, told
}

// TestWhatAllOfItIsFor: of an accepted function one sees the same, it does what its scheme tells, and doesn't go wrong.
func TestWhatAllOfItIsFor(t *testing.T) {
	ended, results, hidden, did := 0, 0, 0, 0
	for i, l := range lattices() {
		r := &source{uint64(200 + i), l}
		for range 150 {
			mods := r.good()
			for _, m := range mods {
				a, _ := Answer(l, mods, m.Name)
				for _, s := range a.Schemes {
					level := r.below(len(l.Names))
					args, others, told := r.handed(s, level)
					store := r.store(mods)
					hiding := r.hide(t, mods, store, level)
					first, e := run.Run(mods, m.Name, s.Fun, args, store, 500)
					second, again := run.Run(mods, m.Name, s.Fun, others, hiding, 500)
					if e != api.OK && e != api.ErrFuel || again != api.OK && again != api.ErrFuel {
						t.Fatal("it goes wrong", texts(mods), m.Name, s, e, again)
					}
					if e != api.OK || again != api.OK {
						continue
					}
					ended++
					if !slices.Equal(args, others) || !slices.Equal(store, hiding) {
						hidden++
					}
					if !sameSeen(l, mods, first, second, level) {
						t.Fatal("one sees another thing", texts(mods), m.Name, s, level, args, others, store, hiding, first, second)
					}
					if l.Leq[told][level] {
						if results++; first.Result != second.Result {
							t.Fatal("another result", texts(mods), m.Name, s, level, args, others, store, hiding)
						}
					}
					for _, deed := range first.Did {
						if did++; !slices.Contains(s.Effects, deed) {
							t.Fatal("it does more", texts(mods), m.Name, s, deed)
						}
					}
				}
			}
		}
	}
	if ended < 1000 || results < 500 || hidden < 500 || did < 500 {
		t.Error("too few", ended, results, hidden, did)
	}
}

// ink fills what it is given, so that a write to it is seen.
func ink(v reflect.Value) {
	switch v.Kind() {
	case reflect.String:
		v.SetString("spare")
	case reflect.Int:
		v.SetInt(1)
	case reflect.Bool:
		v.SetBool(true)
	case reflect.Struct:
		for i := range v.NumField() {
			ink(v.Field(i))
		}
	}
}

// copied is a copy with as much inked room behind each list; with toEnd what was room is part of the list.
func copied(v reflect.Value, room int, toEnd bool) reflect.Value {
	out := reflect.New(v.Type()).Elem()
	switch v.Kind() {
	case reflect.Slice:
		if toEnd {
			v = v.Slice(0, v.Cap())
		}
		n := v.Len()
		out = reflect.MakeSlice(v.Type(), n+room, n+room)
		for i := range n {
			out.Index(i).Set(copied(v.Index(i), room, toEnd))
		}
		for i := range room {
			ink(out.Index(n + i))
		}
		return out.Slice(0, n)
	case reflect.Struct:
		for i := range v.NumField() {
			out.Field(i).Set(copied(v.Field(i), room, toEnd))
		}
	default:
		out.Set(v)
	}
	return out
}

// input is what the calls are handed.
type input struct {
	L    api.Lattice
	Mods []api.Module
}

func roomy(in input) input { return copied(reflect.ValueOf(in), 2, false).Interface().(input) }

func toEnd(in input) input { return copied(reflect.ValueOf(in), 0, true).Interface().(input) }

// span is the memory of a list, its room too.
type span struct{ from, to uintptr }

func spans(v reflect.Value) []span {
	var out []span
	switch v.Kind() {
	case reflect.Slice:
		v = v.Slice(0, v.Cap())
		if v.Len() > 0 {
			out = append(out, span{v.Pointer(), v.Pointer() + uintptr(v.Len())*v.Type().Elem().Size()})
		}
		for i := range v.Len() {
			out = append(out, spans(v.Index(i))...)
		}
	case reflect.Struct:
		for i := range v.NumField() {
			out = append(out, spans(v.Field(i))...)
		}
	}
	return out
}

func share(things ...any) bool {
	var all []span
	for _, thing := range things {
		all = append(all, spans(reflect.ValueOf(thing))...)
	}
	slices.SortFunc(all, func(a, b span) int { return cmp.Compare(a.from, b.from) })
	for i := range len(all) - 1 {
		if all[i].to > all[i+1].from {
			return true
		}
	}
	return false
}

// TestNothingIsChangedOrShared: P2.
func TestNothingIsChangedOrShared(t *testing.T) {
	good, bad := 0, 0
	for i, l := range lattices() {
		r := &source{uint64(300 + i), l}
		for range 80 {
			plain := input{l, r.any()}
			in := roomy(plain)
			was := toEnd(in)
			for _, m := range plain.Mods {
				want, wantErrno := Answer(plain.L, plain.Mods, m.Name)
				wantReach := Reach(plain.Mods, m.Name)
				a, e := Answer(in.L, in.Mods, m.Name)
				again, errnoAgain := Answer(in.L, in.Mods, m.Name)
				reach, reachAgain := Reach(in.Mods, m.Name), Reach(in.Mods, m.Name)
				if e != wantErrno || errnoAgain != wantErrno || !same(a, want) || !same(again, want) || !slices.Equal(reach, wantReach) || !slices.Equal(reachAgain, wantReach) {
					t.Fatal("it hangs on spare room, or on what was asked before", a, e, reach)
				}
				if Form(in.L, in.Mods) != api.OK || !reflect.DeepEqual(toEnd(in), was) {
					t.Fatal("what was handed in is changed")
				}
				if share(in, a, again, reach, reachAgain) {
					t.Fatal("an answer shares memory")
				}
				good, bad = good+len(a.Schemes), bad+len(a.Diags)
			}
		}
	}
	if good < 100 || bad < 100 {
		t.Error("too few", good, bad)
	}
}
