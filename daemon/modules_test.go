package daemon

import (
	"reflect"
	"slices"
	"testing"

	"lowdown/api"
	"lowdown/tree"
)

func printed(t *testing.T, mods []api.Module) []string {
	t.Helper()
	var out []string
	for _, m := range mods {
		s, e := tree.Print(m)
		if e != api.OK {
			t.Fatal(m, e)
		}
		out = append(out, s)
	}
	return out
}

// TestModules: rising by their names, each as it was told last.
func TestModules(t *testing.T) {
	d := begin(t, two())
	if got := d.Modules(); len(got) != 0 {
		t.Error(got)
	}
	c := "(module c (import a) (import b) (var x low) (var y high) (fun f (p q) (set x (+ p (call b.g 1 q))) (if p ((while x ((print low 2)))) ((set y 3))) (call a.h)) (fun k () 0))"
	for _, s := range []string{c, "(module a (fun f () 1))", "(module b)", "(module a (fun g () 2))"} {
		accept(t, d, s)
	}
	want := []string{"(module a (fun g () 2))", "(module b)", c}
	if got := printed(t, d.Modules()); !slices.Equal(got, want) {
		t.Errorf("%q; want %q", got, want)
	}
	d.Cancel("b")
	refuse(t, d, "(module d", 9, api.ErrSyntax)
	if got := printed(t, d.Modules()); !slices.Equal(got, []string{want[0], c}) {
		t.Errorf("%q", got)
	}
}

// TestModulesAreNew: whoever writes to them changes nothing of the daemon, nor of another answer.
func TestModulesAreNew(t *testing.T) {
	told := 0
	r := &source{11, diamond()}
	for range 100 {
		d, m := begin(t, r.l), mirror{}
		for range 10 {
			m.tell(t, r, d)
		}
		want := printed(t, m.modules())
		got, again := d.Modules(), d.Modules()
		if !slices.Equal(printed(t, got), want) {
			t.Fatal(m, got)
		}
		if share(*d, got, again) {
			t.Fatal("modules share memory", m)
		}
		ink(reflect.ValueOf(&got).Elem())
		if !slices.Equal(printed(t, again), want) || !slices.Equal(printed(t, d.Modules()), want) {
			t.Fatal("modules were kept", m)
		}
		told += len(got)
	}
	if told < 100 {
		t.Error("too few", told)
	}
}
