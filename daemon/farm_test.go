package daemon

import (
	"math"
	"runtime"
	"slices"
	"strings"
	"sync"
	"sync/atomic"
	"testing"
	"time"

	"lowdown/api"
	"lowdown/check"
	"lowdown/parse"
)

func read(t *testing.T, texts ...string) []api.Module {
	t.Helper()
	var out []api.Module
	for _, s := range texts {
		m, at, e := parse.Parse(s)
		if e != api.OK {
			t.Fatal(s, at, e)
		}
		out = append(out, m)
	}
	return out
}

// TestFarmErrors: which there are, and which comes first.
func TestFarmErrors(t *testing.T) {
	good := read(t, "(module a)", "(module b (import a))")
	tooLarge := read(t, "(module b (import a))", "(module a "+large()+")")
	seven := make([]api.Module, 7)
	none := api.Module{}
	for what, c := range map[string]struct {
		l       api.Lattice
		mods    []api.Module
		workers int
		want    api.Errno
	}{
		"one worker":                 {two(), good, 1, api.OK},
		"eight workers":              {two(), good, 8, api.OK},
		"no worker":                  {two(), good, 0, api.ErrArg},
		"nine workers":               {two(), good, 9, api.ErrArg},
		"less than none":             {two(), good, -1, api.ErrArg},
		"very many":                  {two(), good, math.MaxInt, api.ErrArg},
		"very few":                   {two(), good, math.MinInt, api.ErrArg},
		"no modules":                 {two(), nil, 3, api.OK},
		"no modules, no worker":      {two(), nil, 0, api.ErrArg},
		"no levels":                  {api.Lattice{}, good, 0, api.ErrArg},
		"no lattice":                 {order("a b", ""), seven, 0, api.ErrForm},
		"seven modules":              {two(), seven, 0, api.ErrLarge},
		"no module":                  {two(), append(slices.Clone(good), none), 9, api.ErrForm},
		"two of one name":            {two(), append(slices.Clone(good), good[0]), 0, api.ErrForm},
		"one too large":              {two(), tooLarge, 2, api.ErrLarge},
		"one too large, no worker":   {two(), tooLarge, 0, api.ErrArg},
		"one too large, for nobody":  {two(), append(slices.Clone(tooLarge[1:]), read(t, "(module c)")...), 4, api.ErrLarge},
		"one too large, at the end":  {two(), append(read(t, "(module c)"), tooLarge[1]), 8, api.ErrLarge},
		"one too large, and no good": {two(), read(t, "(module a (import gone) "+large()+")"), 1, api.OK},
	} {
		got, e := Farm(c.l, c.mods, c.workers)
		if e != c.want || e != api.OK && got != nil || e == api.OK && len(got) != len(c.mods) {
			t.Errorf("%s: %d %v; want %d", what, e, got, c.want)
		}
	}
}

// TestFarmOrder: as the modules stand, not by their names, however many workers there are.
func TestFarmOrder(t *testing.T) {
	mods := read(t, "(module d (import b) (var x low) (fun f () (set x (call b.g)) 0))", "(module b (var y high) (fun g () y))", "(module c (import c))",
		"(module a (import d))", "(module f (import gone))", "(module e (import b) (fun h () (call b.g)) (fun i () 1))")
	want := []string{"6 x", "good g", "8 c", "7 d", "1 gone", "good h i"}
	for workers := 1; workers <= api.MaxWorkers; workers++ {
		answers, e := Farm(two(), mods, workers)
		var got []string
		for _, a := range answers {
			got = append(got, strings.Join(words(a), " "))
		}
		if e != api.OK || !slices.Equal(got, want) {
			t.Errorf("%d: %d %q", workers, e, got)
		}
	}
}

// TestFarmAgainstAnswer: whoever finds which, it is check.Answer of each, or the first error.
func TestFarmAgainstAnswer(t *testing.T) {
	told := map[string]int{}
	for i, l := range []api.Lattice{two(), diamond()} {
		r := &source{uint64(20 + i), l}
		for range 200 {
			names := slices.Clone(modules)
			r.shuffle(names)
			var texts []string
			for _, name := range names[:r.below(7)] {
				texts = append(texts, r.text(name))
			}
			mods := read(t, texts...)
			var want []api.Answer
			wantErrno := api.OK
			for _, m := range mods {
				a, e := check.Answer(l, mods, m.Name)
				want = append(want, a)
				if wantErrno == api.OK {
					wantErrno = e
				}
				count(told, a, e)
			}
			if wantErrno != api.OK {
				want = nil
			}
			for workers := 1; workers <= api.MaxWorkers; workers++ {
				if got, e := Farm(l, mods, workers); e != wantErrno || !slices.EqualFunc(got, want, same) {
					t.Fatal(texts, workers, got, e, want, wantErrno)
				}
			}
		}
	}
	for _, what := range []string{"good", "large", "1", "3", "4", "6", "7", "8"} {
		if told[what] < 20 {
			t.Error("too few", what, told)
		}
	}
}

// TestFarmsBeside: two of them, and a daemon each, may go on at the same time.
func TestFarmsBeside(t *testing.T) {
	text := "(module a (var x low) (fun f (p) (set x p) 0))"
	mods := read(t, text, "(module b (import a) (fun g (q) (call a.f q)))")
	want, _ := Farm(two(), mods, 1)
	var group sync.WaitGroup
	for range 8 {
		group.Go(func() {
			d, _ := New(two())
			d.Submit(text)
			for range 50 {
				got, e := Farm(two(), mods, 4)
				if a, errno := d.Query("a"); e != api.OK || errno != api.OK || !slices.EqualFunc(got, want, same) || !same(a, want[0]) {
					t.Error(got, e, a, errno)
				}
			}
		})
	}
	group.Wait()
}

// TestWorkersGoOnAtTheSameTime: nobody's first thing is done until all workers have begun one; and each thing is done once.
func TestWorkersGoOnAtTheSameTime(t *testing.T) {
	for workers := 1; workers <= api.MaxWorkers; workers++ {
		for n := workers; n < workers+5; n++ {
			done := make([]atomic.Int64, n)
			var begun atomic.Int64
			all := make(chan int)
			atOnce(workers, n, func(i int) {
				if t.Failed() {
					return
				}
				if begun.Add(1) == int64(workers) {
					close(all)
				}
				select {
				case <-all:
				case <-time.After(10 * time.Second):
					t.Error("workers wait for one another", workers, n)
				}
				done[i].Add(1)
			})
			if t.Failed() {
				return
			}
			for i := range done {
				if times := done[i].Load(); times != 1 {
					t.Fatal(workers, n, i, times)
				}
			}
		}
	}
}

// TestWorkersWithoutWork: there may be fewer things than workers, or none.
func TestWorkersWithoutWork(t *testing.T) {
	for workers := 1; workers <= api.MaxWorkers; workers++ {
		for n := range workers {
			var done atomic.Int64
			atOnce(workers, n, func(int) { done.Add(1) })
			if int(done.Load()) != n {
				t.Error(workers, n, done.Load())
			}
		}
	}
}

// TestWorkersEnd: none is left when Farm has answered; one that is joined may take a moment to be gone.
func TestWorkersEnd(t *testing.T) {
	mods := read(t, "(module a)", "(module b "+large()+")")
	before := runtime.NumGoroutine()
	for range 200 {
		Farm(two(), mods[:1], 8)
		Farm(two(), mods, 8)
		Farm(two(), nil, 8)
	}
	for range 1000 {
		if runtime.NumGoroutine() <= before {
			return
		}
		time.Sleep(time.Millisecond)
	}
	t.Error("some are left", runtime.NumGoroutine()-before)
}
