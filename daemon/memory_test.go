package daemon

import (
	"reflect"
	"slices"
	"strings"
	"testing"

	"lowdown/api"
)

// TestLatticeIsNotKept: nor changed; a daemon's levels stay what they were.
func TestLatticeIsNotKept(t *testing.T) {
	l := roomy(diamond())
	for i, name := range l.Names {
		l.Names[i] = strings.Clone(name) // a name from a test's own text may be where another one is
	}
	was := toEnd(l)
	d := begin(t, l, "(module a (var x left) (fun f (p) (set x p) 0))")
	want, _ := d.Query("a")
	if !reflect.DeepEqual(toEnd(l), was) {
		t.Error("the lattice is changed")
	}
	if share(*d, l) || keeps(*d, l) {
		t.Error("the lattice is kept")
	}
	ink(reflect.ValueOf(&l).Elem())
	if a, e := d.Query("a"); e != api.OK || !same(a, want) || len(a.Schemes) != 1 || a.Schemes[0].Bounds[0] != 0 {
		t.Error(a, e, want)
	}
}

// TestTextIsNotKept: neither one that is accepted nor one that isn't.
func TestTextIsNotKept(t *testing.T) {
	d := begin(t, two())
	for _, s := range []string{"(module a (import b) (var x low) (fun f (p) (set t (call b.g p)) (print low x) 0))", "(module a", "(module a.b)"} {
		text := strings.Clone(s)
		name, _, _ := d.Submit(text)
		if keeps(*d, text) || keeps(name, text) {
			t.Error(s)
		}
	}
}

// TestAnswersAreNew: whoever writes to them changes nothing of the daemon, nor of another answer.
func TestAnswersAreNew(t *testing.T) {
	good, bad := 0, 0
	r := &source{9, diamond()}
	for range 150 {
		d, m := begin(t, r.l), mirror{}
		for range 12 {
			m.tell(t, r, d)
		}
		for _, name := range m.names() {
			want, wantErrno := m.fresh(t, r).Query(name)
			a, e := d.Query(name)
			again, errnoAgain := d.Query(name)
			names, namesAgain := d.Names(), d.Names()
			if e != wantErrno || errnoAgain != wantErrno || !same(a, want) || !same(again, want) {
				t.Fatal(m, name, a, e)
			}
			if share(*d, a, again, names, namesAgain) {
				t.Fatal("an answer shares memory", m, name)
			}
			good, bad = good+len(a.Schemes), bad+len(a.Diags)
			ink(reflect.ValueOf(&a).Elem())
			ink(reflect.ValueOf(&names).Elem())
			if b, e := d.Query(name); e != wantErrno || !same(b, want) || !same(again, want) || !slices.Equal(d.Names(), m.names()) || !slices.Equal(namesAgain, m.names()) {
				t.Fatal("an answer was kept", m, name)
			}
		}
	}
	if good < 100 || bad < 100 {
		t.Error("too few", good, bad)
	}
}

// TestFarmChangesNothing: what is handed in has room behind each list, and the answers share none of it, nor with one another.
func TestFarmChangesNothing(t *testing.T) {
	type input struct {
		L    api.Lattice
		Mods []api.Module
	}
	answered := 0
	r := &source{10, diamond()}
	for range 150 {
		m := mirror{}
		for _, name := range modules[:r.below(7)] {
			m[name] = r.text(name)
		}
		plain := input{r.l, m.modules()}
		in := roomy(plain)
		was := toEnd(in)
		workers := 1 + r.below(8)
		want, wantErrno := Farm(plain.L, plain.Mods, 1)
		got, e := Farm(in.L, in.Mods, workers)
		again, errnoAgain := Farm(in.L, in.Mods, workers)
		if e != wantErrno || errnoAgain != wantErrno || !slices.EqualFunc(got, want, same) || !slices.EqualFunc(again, want, same) {
			t.Fatal(m, got, e, want, wantErrno)
		}
		if !reflect.DeepEqual(toEnd(in), was) {
			t.Fatal("what was handed in is changed", m)
		}
		if share(in, got, again) {
			t.Fatal("an answer shares memory", m)
		}
		answered += len(got)
	}
	if answered < 100 {
		t.Error("too few", answered)
	}
}
