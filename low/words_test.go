package low

import (
	"math"
	"reflect"
	"slices"
	"testing"

	"lowdown/api"
	"lowdown/lattice"
	"lowdown/parse"
	"lowdown/run"
	"lowdown/scheme"
)

func lattices() []api.Lattice {
	return []api.Lattice{
		order("a", ""),
		two(),
		order("high low", "low<high"),
		diamond(),
		order("o a b c i", "o<a o<b o<c o<i a<b a<i b<i c<i"),
		order("i d c b a o", "o<a o<b o<c o<d o<i a<c a<d a<i b<d b<i c<i d<i"),
	}
}

// source makes inputs of all shapes, the same ones each time.
type source struct {
	state uint64
	l     api.Lattice
}

func (r *source) below(n int) int {
	r.state = r.state*6364136223846793005 + 1442695040888963407
	return int((r.state >> 33) % uint64(n))
}

func (r *source) one(of ...string) string { return of[r.below(len(of))] }

// level is now and then none.
func (r *source) level() string {
	if r.below(8) == 0 {
		return r.one("", "none", "lo")
	}
	return r.one(r.l.Names...)
}

// input is what both calls are handed.
type input struct {
	L      api.Lattice
	Mods   []api.Module
	Cells  []api.Cell
	Prints []api.Print
}

func (r *source) input() input {
	in := input{L: r.l}
	for range r.below(5) {
		m := api.Module{Name: r.one("m", "n", "")}
		for range r.below(4) {
			m.Vars = append(m.Vars, api.Var{Name: r.one("x", "y", ""), Level: r.level()})
		}
		in.Mods = append(in.Mods, m)
	}
	for i := range r.below(7) {
		in.Cells = append(in.Cells, api.Cell{Mod: r.one("m", "n", "", "o"), Name: r.one("x", "y", "", "z"), Value: i})
		in.Prints = append(in.Prints, api.Print{Level: r.level(), Value: i})
	}
	return in
}

// maySee asks the lattice alone: joined with one's level, what is below it leaves that as it is.
func maySee(l api.Lattice, name string, level int) bool {
	a, e := lattice.Find(l, name)
	if e != api.OK {
		return false
	}
	both, _ := lattice.Join(l, a, level)
	return both == level
}

// cellSeen goes by the words of P18: the first module, its first Var.
func cellSeen(in input, c api.Cell, level int) bool {
	for _, m := range in.Mods {
		if m.Name != c.Mod {
			continue
		}
		for _, v := range m.Vars {
			if v.Name == c.Name {
				return maySee(in.L, v.Level, level)
			}
		}
		return false
	}
	return false
}

func byTheWords(in input, level int) ([]api.Cell, []api.Print) {
	var cells []api.Cell
	for _, c := range in.Cells {
		if cellSeen(in, c, level) {
			cells = append(cells, c)
		}
	}
	var prints []api.Print
	for _, p := range in.Prints {
		if maySee(in.L, p.Level, level) {
			prints = append(prints, p)
		}
	}
	return cells, prints
}

func TestAgainstTheWords(t *testing.T) {
	seen, hidden := 0, 0
	for i, l := range lattices() {
		r := &source{uint64(i), l}
		for range 2000 {
			in, level := r.input(), r.below(len(l.Names))
			wantCells, wantPrints := byTheWords(in, level)
			cells, e := Cells(in.L, in.Mods, in.Cells, level)
			prints, f := Prints(in.L, in.Prints, level)
			if e != api.OK || f != api.OK || !slices.Equal(cells, wantCells) || !slices.Equal(prints, wantPrints) {
				t.Fatal(in, level, e, cells, wantCells, f, prints, wantPrints)
			}
			seen += min(len(cells), len(prints))
			hidden += len(in.Cells) - max(len(cells), len(prints))
		}
	}
	if seen < 1000 || hidden < 1000 {
		t.Error("too few", seen, hidden)
	}
}

// TestHigherSeesMore: what one sees of a store is handed in again, and again all of it is seen; and who is higher sees no less.
func TestHigherSeesMore(t *testing.T) {
	for i, l := range lattices() {
		r := &source{uint64(100 + i), l}
		for range 300 {
			in := r.input()
			for a := range l.Names {
				cells, _ := Cells(l, in.Mods, in.Cells, a)
				prints, _ := Prints(l, in.Prints, a)
				for b := range l.Names {
					if !l.Leq[a][b] {
						continue
					}
					cellsAgain, e := Cells(l, in.Mods, cells, b)
					printsAgain, f := Prints(l, prints, b)
					if e != api.OK || f != api.OK || !slices.Equal(cellsAgain, cells) || !slices.Equal(printsAgain, prints) {
						t.Fatal(in, a, b, cells, cellsAgain, prints, printsAgain)
					}
				}
			}
		}
	}
}

// accepted is a module of which scheme.Infer tells schemes.
const accepted = "(module m (var x low) (var y left) (var z right) (var h high) (fun f () (set h (+ h (* y z))) " +
	"(if y ((set y (- y 1)) (print left x) (print high h)) ((set h x))) " +
	"(while (< x 2) ((set x (+ x 1)) (print low x))) " +
	"(if (= z h) ((print high z)) ((set h (+ h x)))) " +
	"(print right (+ x z)) x))"

// TestOneSeesTheSame: at the end, of an accepted function, whatever of the store one didn't see at the beginning.
func TestOneSeesTheSame(t *testing.T) {
	m, _, e := parse.Parse(accepted)
	if e != api.OK {
		t.Fatal(e)
	}
	l, mods := diamond(), []api.Module{m}
	if s, d, e := scheme.Infer(l, m, nil, nil); len(s) != 1 || e != api.OK {
		t.Fatal(s, d, e)
	}
	differ := 0
	ends := map[[4]int]run.Outcome{}
	each(func(values [4]int) {
		o, e := run.Run(mods, "m", "f", nil, cellsOf(values), 100)
		if e != api.OK {
			t.Fatal(values, e)
		}
		ends[values] = o
	})
	each(func(a [4]int) {
		each(func(b [4]int) {
			for level := range l.Names {
				if !sameSeen(t, l, mods, cellsOf(a), cellsOf(b), nil, nil, level) {
					continue
				}
				if !sameSeen(t, l, mods, ends[a].Store, ends[b].Store, ends[a].Prints, ends[b].Prints, level) {
					t.Fatal(a, b, level, ends[a], ends[b])
				}
				if a != b {
					differ++
				}
			}
		})
	})
	if differ < 1000 {
		t.Error("too few", differ)
	}
}

func each(do func(values [4]int)) {
	for i := range 81 {
		do([4]int{i % 3, i / 3 % 3, i / 9 % 3, i / 27})
	}
}

func cellsOf(values [4]int) []api.Cell {
	cells := store("m.x m.y m.z m.h")
	for i, v := range values {
		cells[i].Value = v
	}
	return cells
}

func sameSeen(t *testing.T, l api.Lattice, mods []api.Module, a, b []api.Cell, p, q []api.Print, level int) bool {
	t.Helper()
	var errnos [4]api.Errno
	a, errnos[0] = Cells(l, mods, a, level)
	b, errnos[1] = Cells(l, mods, b, level)
	p, errnos[2] = Prints(l, p, level)
	q, errnos[3] = Prints(l, q, level)
	if errnos != [4]api.Errno{} {
		t.Fatal(errnos)
	}
	return slices.Equal(a, b) && slices.Equal(p, q)
}

// ink fills what it is given, so that a write to it is seen.
func ink(v reflect.Value) {
	switch v.Kind() {
	case reflect.String:
		v.SetString("spare")
	case reflect.Int:
		v.SetInt(math.MaxInt)
	case reflect.Bool:
		v.SetBool(true)
	case reflect.Struct:
		for i := range v.NumField() {
			ink(v.Field(i))
		}
	}
}

// copied is a copy with as much inked room behind each list; with toEnd what was room is part of the list.
func copied(v reflect.Value, room int, toEnd bool) reflect.Value {
	out := reflect.New(v.Type()).Elem()
	switch v.Kind() {
	case reflect.Slice:
		if toEnd {
			v = v.Slice(0, v.Cap())
		}
		n := v.Len()
		out = reflect.MakeSlice(v.Type(), n+room, n+room)
		for i := range n {
			out.Index(i).Set(copied(v.Index(i), room, toEnd))
		}
		for i := range room {
			ink(out.Index(n + i))
		}
		return out.Slice(0, n)
	case reflect.Struct:
		for i := range v.NumField() {
			out.Field(i).Set(copied(v.Field(i), room, toEnd))
		}
	default:
		out.Set(v)
	}
	return out
}

func roomy(in input) input { return copied(reflect.ValueOf(in), 2, false).Interface().(input) }

func toEnd(in input) input { return copied(reflect.ValueOf(in), 0, true).Interface().(input) }

// overwrite fills a list, its room too, as one may who was told it.
func overwrite[T any](list []T) {
	list = list[:cap(list)]
	for i := range list {
		ink(reflect.ValueOf(&list[i]).Elem())
	}
}

// TestNothingIsChangedOrShared: P2.
func TestNothingIsChangedOrShared(t *testing.T) {
	told := 0
	for i, l := range lattices() {
		r := &source{uint64(200 + i), l}
		for range 300 {
			plain, level := r.input(), r.below(len(l.Names))
			wantCells, wantPrints := byTheWords(plain, level)
			in := roomy(plain)
			was := toEnd(in)
			for range 2 {
				cells, _ := Cells(in.L, in.Mods, in.Cells, level)
				prints, _ := Prints(in.L, in.Prints, level)
				cellsAgain, _ := Cells(in.L, in.Mods, in.Cells, level)
				printsAgain, _ := Prints(in.L, in.Prints, level)
				told += min(len(cells), len(prints))
				overwrite(cells)
				overwrite(prints)
				if !slices.Equal(cellsAgain, wantCells) || !slices.Equal(printsAgain, wantPrints) {
					t.Fatal("it hangs on spare room, on what was asked before, or shares memory", in, cellsAgain, printsAgain)
				}
				if !reflect.DeepEqual(toEnd(in), was) {
					t.Fatal("what was handed in is changed, or shared")
				}
			}
		}
	}
	if told < 500 {
		t.Error("too few", told)
	}
}
