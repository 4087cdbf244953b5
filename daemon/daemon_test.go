package daemon

import (
	"slices"
	"strings"
	"testing"

	"lowdown/api"
	"lowdown/check"
	"lowdown/parse"
)

// order makes a lattice of names parted by blanks; pairs, such as "a<b", are all that is below another level.
func order(levels, pairs string) api.Lattice {
	l := api.Lattice{Names: strings.Fields(levels)}
	for i := range l.Names {
		row := make([]bool, len(l.Names))
		row[i] = true
		l.Leq = append(l.Leq, row)
	}
	for _, p := range strings.Fields(pairs) {
		a, b, _ := strings.Cut(p, "<")
		l.Leq[slices.Index(l.Names, a)][slices.Index(l.Names, b)] = true
	}
	return l
}

func two() api.Lattice { return order("low high", "low<high") }

// diamond: neither end is the first level.
func diamond() api.Lattice {
	return order("left high right low", "low<left low<right low<high left<high right<high")
}

func begin(t *testing.T, l api.Lattice, texts ...string) *Daemon {
	t.Helper()
	d, e := New(l)
	if e != api.OK || d == nil {
		t.Fatal(l, e)
	}
	for _, s := range texts {
		accept(t, d, s)
	}
	return d
}

// accept submits a text that is no reason for an error, and tells the name.
func accept(t *testing.T, d *Daemon, text string) string {
	t.Helper()
	name, at, e := d.Submit(text)
	if m, _, _ := parse.Parse(text); e != api.OK || at != 0 || name != m.Name {
		t.Fatal(text, name, at, e)
	}
	return name
}

func refuse(t *testing.T, d *Daemon, text string, wantAt int, want api.Errno) {
	t.Helper()
	if name, at, e := d.Submit(text); name != "" || at != wantAt || e != want {
		t.Errorf("%q: %q %d %d; want %d %d", text, name, at, e, wantAt, want)
	}
}

func expectNames(t *testing.T, d *Daemon, want string) {
	t.Helper()
	if got := d.Names(); !slices.Equal(got, strings.Fields(want)) {
		t.Errorf("%q; want %q", got, want)
	}
}

// expectAnswer: what is wrong, as its codes and names, "CODE NAME"; of a good module "good", and its functions' names.
func expectAnswer(t *testing.T, d *Daemon, name string, want ...string) {
	t.Helper()
	a, e := d.Query(name)
	if got := words(a); e != api.OK || !slices.Equal(got, want) {
		t.Errorf("%s: %d %q; want %q", name, e, got, want)
	}
}

func words(a api.Answer) []string {
	var out []string
	for _, d := range a.Diags {
		out = append(out, string(rune('0'+d.Code))+" "+d.Name)
	}
	if len(out) > 0 {
		return out
	}
	out = []string{"good"}
	for _, s := range a.Schemes {
		out = append(out, s.Fun)
	}
	return out
}

func expectErrno(t *testing.T, d *Daemon, name string, want api.Errno) {
	t.Helper()
	if a, e := d.Query(name); e != want || a.Schemes != nil || a.Diags != nil {
		t.Errorf("%q: %d %v; want %d", name, e, a, want)
	}
}

// same takes lists without anything for one another, be they nil or not.
func same(a, b api.Answer) bool {
	return slices.Equal(a.Diags, b.Diags) && slices.EqualFunc(a.Schemes, b.Schemes, func(x, y api.Scheme) bool {
		return x.Fun == y.Fun && x.Result == y.Result && slices.Equal(x.Bounds, y.Bounds) && x.PC == y.PC && slices.Equal(x.Effects, y.Effects)
	})
}

// large is a function with more variables than one may have; it is small enough for a text.
func large() string {
	var b strings.Builder
	b.WriteString("(fun large () ")
	for i := range 41 {
		b.WriteString("(set v" + string(rune('a'+i/26)) + string(rune('a'+i%26)) + " 0)")
	}
	return b.String() + " 0)"
}

// TestNew: of a wrong lattice there is no daemon; of any other one without modules.
func TestNew(t *testing.T) {
	short := two()
	short.Leq = short.Leq[1:]
	for what, c := range map[string]struct {
		l    api.Lattice
		want api.Errno
	}{
		"no levels":                {api.Lattice{}, api.ErrArg},
		"no name":                  {order("Low high", "Low<high"), api.ErrArg},
		"a name twice":             {api.Lattice{Names: []string{"a", "a"}, Leq: [][]bool{{true, true}, {false, true}}}, api.ErrArg},
		"many levels":              {order("a b c d e f g", ""), api.ErrLarge},
		"a row less":               {short, api.ErrForm},
		"levels beside each other": {order("a b", ""), api.ErrForm},
	} {
		if d, e := New(c.l); d != nil || e != c.want {
			t.Errorf("%s: %v %d; want %d", what, d, e, c.want)
		}
	}
	for _, l := range []api.Lattice{order("a", ""), two(), diamond(), order("a b c d e f", "a<b a<c a<d a<e a<f b<c b<d b<e b<f c<d c<e c<f d<e d<f e<f")} {
		d := begin(t, l)
		expectNames(t, d, "")
		expectErrno(t, d, "a", api.ErrNone)
	}
}

// TestSubmitWrongTexts: Parse's error, and where; the daemon has what it had.
func TestSubmitWrongTexts(t *testing.T) {
	d := begin(t, two(), "(module a (fun f () 1))")
	for text, want := range map[string]struct {
		at    int
		errno api.Errno
	}{
		"":                           {0, api.ErrSyntax},
		" \n":                        {2, api.ErrSyntax},
		"(module a":                  {9, api.ErrSyntax},
		"(module a) b":               {11, api.ErrSyntax},
		"(module a)\t":               {10, api.ErrSyntax},
		"(module a (fun g () 01))":   {20, api.ErrSyntax},
		"(module A)":                 {8, api.ErrSyntax},
		"(module a.b)":               {0, api.ErrForm},
		"(module averylong)":         {0, api.ErrForm},
		"(module a (fun g (p.q) 1))": {0, api.ErrForm},
		"(module a " + strings.Repeat("(import b)", 9) + ")":                                        {0, api.ErrLarge},
		"(module a (fun g (p q r s t) 1))":                                                          {0, api.ErrLarge},
		"(module a)" + strings.Repeat(" ", 4087):                                                    {0, api.ErrLarge},
		"(module a (fun g () " + strings.Repeat("(+ 1 ", 19) + "1" + strings.Repeat(")", 19) + "))": {110, api.ErrSyntax},
	} {
		m, at, e := parse.Parse(text)
		if m.Name != "" || at != want.at || e != want.errno {
			t.Fatalf("%q: the test itself is wrong: %d %d", text, at, e)
		}
		refuse(t, d, text, want.at, want.errno)
		expectNames(t, d, "a")
		expectAnswer(t, d, "a", "good", "f")
	}
	accept(t, d, "(module a)"+strings.Repeat(" ", 4086))
	expectAnswer(t, d, "a", "good")
}

// TestSubmitInPlace: one of a name that is there takes its place, and nothing of the earlier one is left.
func TestSubmitInPlace(t *testing.T) {
	d := begin(t, two(), "(module m (var x high) (fun f () x) (fun g () 1))", "(module a (import m) (fun f () (call m.g)))", "(module z (import a))")
	expectAnswer(t, d, "a", "good", "f")
	accept(t, d, " (module\nm(fun f()2) ) ")
	expectNames(t, d, "a m z")
	expectAnswer(t, d, "m", "good", "f")
	expectAnswer(t, d, "a", "4 m.g")
	expectAnswer(t, d, "z", "7 a")
	accept(t, d, "(module m)")
	expectAnswer(t, d, "m", "good")
	accept(t, d, "(module m (fun g () 3))")
	expectAnswer(t, d, "m", "good", "g")
	expectAnswer(t, d, "a", "good", "f")
	expectAnswer(t, d, "z", "good")
	expectNames(t, d, "a m z")
}

// TestSubmitWrongModules: what is wrong with a module is asked for, and no reason to refuse it.
func TestSubmitWrongModules(t *testing.T) {
	d := begin(t, two(), "(module a (import a))", "(module b (import a) (import gone))", "(module c (var x none) (fun f (p p) (call g)))", "(module d "+large()+")", "(module e (import d))")
	expectNames(t, d, "a b c d e")
	expectAnswer(t, d, "a", "8 a")
	expectAnswer(t, d, "b", "7 a")
	expectAnswer(t, d, "c", "3 none", "2 p", "4 g")
	expectErrno(t, d, "d", api.ErrLarge)
	expectErrno(t, d, "e", api.ErrLarge)
	accept(t, d, "(module d)")
	expectAnswer(t, d, "d", "good")
	expectAnswer(t, d, "e", "good")
}

// TestSixModules: no seventh one, but in the place of one of them, or of one that is gone; a wrong text is told ahead of that.
func TestSixModules(t *testing.T) {
	d := begin(t, two(), "(module f)", "(module b)", "(module e)", "(module a)", "(module d)", "(module c)")
	expectNames(t, d, "a b c d e f")
	for _, text := range []string{"(module g)", "(module aa)", "(module bb (import a))"} {
		refuse(t, d, text, 0, api.ErrLarge)
		expectNames(t, d, "a b c d e f")
	}
	refuse(t, d, "(module g", 9, api.ErrSyntax)
	refuse(t, d, "(module g.h)", 0, api.ErrForm)
	for _, name := range d.Names() {
		accept(t, d, "(module "+name+" (import gone))")
		expectNames(t, d, "a b c d e f")
		expectAnswer(t, d, name, "1 gone")
	}
	if e := d.Cancel("c"); e != api.OK {
		t.Error(e)
	}
	accept(t, d, "(module g)")
	expectNames(t, d, "a b d e f g")
	refuse(t, d, "(module c)", 0, api.ErrLarge)
	expectErrno(t, d, "c", api.ErrNone)
	expectAnswer(t, d, "g", "good")
}

// TestCancel: one is gone, and may come again; of no module's name, whatever it is, nothing changes.
func TestCancel(t *testing.T) {
	d := begin(t, two())
	none := []string{"", "b", "f", "x", "low", "A", "a ", "aa", "\xff\n(", strings.Repeat("a", 5000)}
	for _, name := range append(none, "a", "c") {
		if e := d.Cancel(name); e != api.ErrNone {
			t.Errorf("%q: %d", name, e)
		}
	}
	for range 3 {
		accept(t, d, "(module a (import b) (var x low) (fun f () 1))")
		accept(t, d, "(module c (import a) (fun g () (call a.f)))")
		for _, name := range none {
			if e := d.Cancel(name); e != api.ErrNone {
				t.Errorf("%q: %d", name, e)
			}
			expectErrno(t, d, name, api.ErrNone)
		}
		expectNames(t, d, "a c")
		expectAnswer(t, d, "c", "7 a")
		if d.Cancel("a") != api.OK || d.Cancel("a") != api.ErrNone {
			t.Error("a")
		}
		expectNames(t, d, "c")
		expectErrno(t, d, "a", api.ErrNone)
		expectAnswer(t, d, "c", "1 a", "4 a.f")
		if d.Cancel("c") != api.OK || d.Cancel("c") != api.ErrNone {
			t.Error("c")
		}
		expectNames(t, d, "")
	}
}

// TestNamesRising: as texts, whatever the order in which they came and went.
func TestNamesRising(t *testing.T) {
	d := begin(t, two(), "(module z)", "(module ab)", "(module b)", "(module a)", "(module aaa)", "(module aa)")
	expectNames(t, d, "a aa aaa ab b z")
	d.Cancel("aa")
	d.Cancel("z")
	expectNames(t, d, "a aaa ab b")
	accept(t, d, "(module az)")
	accept(t, d, "(module abcdefgh)")
	expectNames(t, d, "a aaa ab abcdefgh az b")
}

// TestCopy: a daemon as a value goes on by itself, whatever the other one is told.
func TestCopy(t *testing.T) {
	d := begin(t, two(), "(module b (fun f () 1))", "(module d)", "(module c)")
	other := *d
	d.Cancel("b")
	accept(t, d, "(module a (fun g () 1))")
	expectNames(t, &other, "b c d")
	expectAnswer(t, &other, "b", "good", "f")
	accept(t, &other, "(module b (fun h () 1))")
	accept(t, &other, "(module aa)")
	expectNames(t, d, "a c d")
	expectAnswer(t, d, "a", "good", "g")
	expectNames(t, &other, "aa b c d")
}

// TestWithoutNew: a daemon that New didn't make has no levels, and says so.
func TestWithoutNew(t *testing.T) {
	var d Daemon
	expectErrno(t, &d, "a", api.ErrArg)
	accept(t, &d, "(module a)")
	expectNames(t, &d, "a")
	expectErrno(t, &d, "a", api.ErrArg)
	if d.Cancel("a") != api.OK || d.Cancel("a") != api.ErrNone {
		t.Error("cancel")
	}
}

// TestSchemes are those of the daemon's own lattice, by the answers of what is imported.
func TestSchemes(t *testing.T) {
	texts := []string{"(module b (var y left) (fun g (p q) (set y p) q))", "(module a (import b) (var x right) (fun f (p) (call b.g p x)))"}
	want := api.Answer{Schemes: []api.Scheme{{Fun: "f", Result: api.Label{Level: 2}, Bounds: []int{0}, PC: 0, Effects: []string{"r:a.x", "w:b.y"}}}}
	d := begin(t, diamond(), texts...)
	if a, e := d.Query("a"); e != api.OK || !same(a, want) {
		t.Error(a, e)
	}
	// another daemon has other levels, and other modules
	other := begin(t, two(), texts[1])
	expectAnswer(t, other, "a", "1 b", "3 right", "4 b.g")
	expectErrno(t, other, "b", api.ErrNone)
	if a, e := d.Query("a"); e != api.OK || !same(a, want) {
		t.Error(a, e)
	}
}

// mirror is what a daemon should have, kept in the plainest way.
type mirror map[string]string

func (m mirror) names() []string {
	var out []string
	for name := range m {
		out = append(out, name)
	}
	slices.Sort(out)
	return out
}

func (m mirror) modules() []api.Module {
	var out []api.Module
	for _, name := range m.names() {
		mod, _, _ := parse.Parse(m[name])
		out = append(out, mod)
	}
	return out
}

// fresh is a daemon that is told all of it at once, in any order.
func (m mirror) fresh(t *testing.T, r *source) *Daemon {
	t.Helper()
	names := m.names()
	r.shuffle(names)
	d := begin(t, r.l)
	for _, name := range names {
		accept(t, d, m[name])
	}
	return d
}

// tell does one thing to both.
func (m mirror) tell(t *testing.T, r *source, d *Daemon) {
	t.Helper()
	name := r.one(modules...)
	_, there := m[name]
	switch k := r.below(8); {
	case k == 0:
		refuse(t, d, "(module "+name, 8+len(name), api.ErrSyntax)
	case k < 3:
		want := api.ErrNone
		if there {
			want = api.OK
		}
		if e := d.Cancel(name); e != want {
			t.Fatal(name, e)
		}
		delete(m, name)
	case !there && len(m) == api.MaxModules:
		refuse(t, d, r.text(name), 0, api.ErrLarge)
	default:
		text := r.text(name)
		accept(t, d, text)
		m[name] = text
	}
}

// TestAskedAgain: after whatever, a daemon tells what one tells that was asked at once; and all that there is to tell is told.
func TestAskedAgain(t *testing.T) {
	told := map[string]int{}
	for i, l := range []api.Lattice{order("low", ""), two(), order("high low", "low<high"), diamond()} {
		r := &source{uint64(i), l}
		for range 40 {
			d, m := begin(t, l), mirror{}
			for range 40 {
				m.tell(t, r, d)
				if !slices.Equal(d.Names(), m.names()) {
					t.Fatal(d.Names(), m)
				}
				fresh := m.fresh(t, r)
				for range r.below(9) {
					name := r.one(modules...)
					a, e := d.Query(name)
					first, errnoFirst := fresh.Query(name)
					want, wantErrno := check.Answer(l, m.modules(), name)
					if e != wantErrno || errnoFirst != wantErrno || !same(a, want) || !same(first, want) {
						t.Fatal(m, name, a, e, first, errnoFirst, want, wantErrno)
					}
					count(told, a, e)
				}
			}
		}
	}
	for _, what := range []string{"good", "none", "large", "1", "3", "4", "6", "7", "8"} {
		if told[what] < 100 {
			t.Error("too few", what, told)
		}
	}
}

func count(told map[string]int, a api.Answer, e api.Errno) {
	if e == api.ErrLarge {
		told["large"]++
	}
	if e == api.ErrNone {
		told["none"]++
	}
	if len(a.Schemes) > 0 {
		told["good"]++
	}
	for _, d := range a.Diags {
		told[string(rune('0'+d.Code))]++
	}
}
