package desk

import (
	"maps"
	"regexp"
	"slices"
	"strconv"
	"strings"
	"testing"

	"lowdown/api"
	"lowdown/check"
	"lowdown/parse"
	"lowdown/run"
	"lowdown/tree"
)

// The promise written anew, without a daemon: forms of lines, and what each does to a table of modules' texts.
const blank = `[ ]+`

var (
	skipped = regexp.MustCompile(`^[ ]*(#.*)?$`)
	form    = regexp.MustCompile(`^[ ]*(?s:` + strings.Join([]string{
		`text` + blank + `(?P<text>.*[^ ].*)`,
		`(?P<submit>submit)`,
		`cancel` + blank + `(?P<cancel>[^ ]+)`,
		`ask` + blank + `(?P<ask>[^ ]+)`,
		`put` + blank + `(?P<put>[^ ]+` + blank + `[^ ]+` + blank + number + `)`,
		`run` + blank + `(?P<run>[^ ]+` + blank + `[^ ]+(` + blank + number + `)*)`,
		`show` + blank + `(?P<show>[^ ]+)`,
	}, "|") + `)[ ]*$`)
	blanks = regexp.MustCompile(blank)
)

const number = `(0|[1-9][0-9]{0,5})`

type model struct {
	texts map[string]string // of modules, by their names
	text  string
	cells []api.Cell // the newest last
}

func (m *model) modules() []api.Module {
	var out []api.Module
	for _, name := range slices.Sorted(maps.Keys(m.texts)) {
		mod, _, _ := parse.Parse(m.texts[name])
		out = append(out, mod)
	}
	return out
}

func (m *model) levels() api.Lattice {
	return api.Lattice{Names: []string{"low", "high"}, Leq: [][]bool{{true, true}, {false, true}}}
}

// line tells the whole answer of a line, bytes 10 included.
func (m *model) line(line string) string {
	if skipped.MatchString(line) {
		return ""
	}
	found := form.FindStringSubmatch(line)
	if found == nil {
		return "error 3\n"
	}
	for i, kind := range form.SubexpNames() {
		if kind != "" && found[i] != "" {
			return m.kind(kind, strings.Trim(found[i], " "))
		}
	}
	panic(line)
}

func (m *model) kind(kind, rest string) string {
	_, there := m.texts[rest]
	switch kind {
	case "text":
		longer := m.text + blanks.ReplaceAllLiteralString(rest, " ") + "\n"
		if len(longer) > 4096 {
			return "error 2\n"
		}
		m.text = longer
		return "ok\n"
	case "submit":
		return m.submit()
	case "put":
		w := blanks.Split(rest, -1)
		n, _ := strconv.Atoi(w[2])
		m.cells = append(m.cells, api.Cell{Mod: w[0], Name: w[1], Value: n})
		return "ok\n"
	case "run":
		return m.run(blanks.Split(rest, -1))
	}
	if !there {
		return "error 4\n"
	}
	switch kind {
	case "cancel":
		delete(m.texts, rest)
		return "ok\n"
	case "ask":
		return m.ask(rest)
	}
	mod, _, _ := parse.Parse(m.texts[rest])
	text, _ := tree.Print(mod)
	return text + "\n"
}

func (m *model) submit() string {
	text := m.text
	m.text = ""
	mod, at, e := parse.Parse(text)
	if e != api.OK {
		return "error " + strconv.Itoa(int(e)) + " " + strconv.Itoa(at) + "\n"
	}
	if _, there := m.texts[mod.Name]; !there && len(m.texts) == 6 {
		return "error 2 0\n"
	}
	m.texts[mod.Name] = text
	return mod.Name + "\n"
}

func (m *model) ask(name string) string {
	a, e := check.Answer(m.levels(), m.modules(), name)
	if e != api.OK {
		return "error " + strconv.Itoa(int(e)) + "\n"
	}
	out := ""
	for _, s := range a.Schemes {
		out += "fun " + s.Fun + " " + strconv.Itoa(s.Result.Mask) + " " + strconv.Itoa(s.Result.Level) + " " + strconv.Itoa(s.PC)
		for _, b := range s.Bounds {
			out += " " + strconv.Itoa(b)
		}
		out += "\n"
	}
	for _, d := range a.Diags {
		out += "wrong " + strconv.Itoa(d.Code) + " "
		if d.Fun == "" {
			out += "-"
		}
		out += d.Fun + " " + d.Name + "\n"
	}
	return out + "ok\n"
}

func (m *model) run(words []string) string {
	var args []int
	for _, w := range words[2:] {
		n, _ := strconv.Atoi(w)
		args = append(args, n)
	}
	store := slices.Clone(m.cells)
	slices.Reverse(store)
	o, e := run.Run(m.modules(), words[0], words[1], args, store, 1000)
	if e != api.OK {
		return "error " + strconv.Itoa(int(e)) + "\n"
	}
	// Of each variable there is one cell, so that no order is to be kept.
	m.cells = o.Store
	out := ""
	for _, p := range o.Prints {
		out += "print " + p.Level + " " + strconv.Itoa(p.Value) + "\n"
	}
	return out + "result " + strconv.Itoa(o.Result) + "\n"
}

// source makes scripts, the same ones each time.
type source struct{ state uint64 }

func (r *source) below(n int) int {
	r.state = r.state*6364136223846793005 + 1442695040888963407
	return int((r.state >> 33) % uint64(n))
}

func (r *source) one(of ...string) string { return of[r.below(len(of))] }

func (r *source) module() string { return r.one("a", "b", "c", "d", "e", "f", "g") }

// text has mostly imports that are no reason to go round, and calls that fit, if what is called is there.
func (r *source) text() string {
	name := r.module()
	parts := []string{"(module", name}
	values := []string{"p", "x", "y", "t", "1"}
	for _, other := range []string{"a", "b", "c", "d", "e", "f", "g"} {
		if other > name && r.below(5) == 0 || r.below(40) == 0 {
			parts = append(parts, "(import "+other+")")
			values = append(values, "(call "+other+".f p)", "(call "+other+".f x)")
		}
	}
	parts = append(parts, "(var x "+r.level()+")", "(var y "+r.level()+")")
	for _, fun := range []string{"f", "g"}[:1+r.below(2)] {
		params := r.one("(p)", "(p)", "(p)", "(p)", "(p q)", "()")
		parts = append(parts, "(fun "+fun, params, r.commands(2, values), r.expr(values)+")")
		values = append(values, "(call "+fun+" p)")
	}
	return strings.Join(parts, " ") + r.one(")", ")", ")", ")", ")", ")", ")", "", "))", "*")
}

func (r *source) level() string {
	if r.below(30) == 0 {
		return "none"
	}
	return r.one("low", "high")
}

func (r *source) expr(values []string) string {
	if r.below(3) == 0 {
		return "(" + r.one("+", "-", "*", "<", "=") + " " + r.one(values...) + " " + r.one(values...) + ")"
	}
	return r.one(values...)
}

func (r *source) commands(depth int, values []string) string {
	var out []string
	for range r.below(4) {
		e := r.expr(values)
		switch k := r.below(8); {
		case k < 2:
			out = append(out, "(print "+r.level()+" "+e+")")
		case k == 2 && depth > 0:
			out = append(out, "(if "+e+" ("+r.commands(depth-1, values)+") ("+r.commands(depth-1, values)+"))")
		case k == 3 && depth > 0:
			out = append(out, "(while "+e+" ("+r.commands(depth-1, values)+"))")
		default:
			out = append(out, "(set "+r.one("x", "y", "t", "p")+" "+e+")")
		}
	}
	return strings.Join(out, " ")
}

func (r *source) number() string {
	if r.below(12) == 0 {
		return r.one("01", "1000000", "-1", "x", "1x")
	}
	return r.one("0", "1", "2", "7", "30", "999999")
}

// lines are one or more that belong together, as they should be.
func (r *source) lines() []string {
	switch k := r.below(12); {
	case k < 3:
		var out []string
		for _, part := range strings.Split(r.text(), " (") {
			if len(out) == 0 {
				out = append(out, "text "+part)
			} else if r.below(5) == 0 {
				out = append(out, "text ("+part)
			} else {
				out[len(out)-1] += " (" + part
			}
		}
		return append(out, "submit")
	case k == 3:
		return []string{"cancel " + r.module()}
	case k < 6:
		return []string{"ask " + r.module()}
	case k < 8:
		return []string{"put " + r.module() + " " + r.one("x", "y") + " " + r.number()}
	case k < 11:
		return []string{"run " + r.module() + " " + r.one("f", "g") + r.one(" "+r.number(), " "+r.number(), " "+r.number(), "", " "+r.number()+" "+r.number())}
	}
	return []string{"show " + r.module()}
}

// spoil makes another line of one, now and then.
func (r *source) spoil(line string) string {
	if r.below(8) > 0 {
		return line
	}
	at := r.below(len(line))
	switch r.below(7) {
	case 0:
		return line[:at]
	case 1:
		return line[:at] + r.one("\t", "#", "\xff", "é", "0", "(") + line[at:]
	case 2:
		return line + " " + r.one("x", "1", "#")
	case 3:
		return strings.ReplaceAll("  "+line+" ", " ", "   ")
	case 4:
		return "#" + line
	case 5:
		return "text " + strings.Repeat("(import a)", r.below(400))
	}
	return r.one("", "  ", "x", "text", "submit")
}

func (r *source) script() []string {
	var out []string
	for most := r.below(190); len(out) < most; {
		for _, line := range r.lines() {
			out = append(out, r.spoil(line))
		}
	}
	return out
}

// TestRandomScripts: line by line what the promise tells; and of all that there is to tell there is enough.
func TestRandomScripts(t *testing.T) {
	r := &source{1}
	told := map[string]int{}
	for range 900 {
		script := r.script()
		m := &model{texts: map[string]string{}}
		want := ""
		for _, line := range script {
			want += m.line(line)
		}
		text := strings.Join(script, "\n") + r.one("", "\n")
		if len(script) > 200 || len(text) > 65536 {
			want = "error 2\n"
		}
		if got := Run(text); got != want {
			t.Fatalf("%q:\n%s\nwant\n%s", text, got, want)
		}
		for _, line := range strings.Split(want, "\n") {
			words := strings.Fields(line)
			told[strings.Join(words[:min(2, len(words))], " ")]++
		}
	}
	for _, what := range []string{"ok", "a", "g", "(module a", "error 2", "error 3", "error 4", "error 5", "error 6", "fun f", "wrong 1", "wrong 3", "wrong 4", "wrong 5", "wrong 6", "wrong 7", "wrong 8", "print low", "print high", "result 0", "result 1"} {
		if told[what] < 50 {
			t.Error("too few", what, told[what])
		}
	}
}

// TestAnyBytes: P1, and that each answer ends with a byte 10.
func TestAnyBytes(t *testing.T) {
	r := &source{2}
	for range 1000 {
		b := []byte(strings.Join(r.script(), "\n"))
		for range r.below(40) {
			if len(b) > 0 {
				b[r.below(len(b))] = byte(r.below(256))
			}
		}
		if got := Run(string(b)); got != "" && !strings.HasSuffix(got, "\n") || strings.Contains(got, "\n\n") || Run(string(b)) != got {
			t.Fatalf("%q: %q", b, got)
		}
	}
}
