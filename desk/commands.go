package desk

import (
	"strconv"

	"lowdown/api"
	"lowdown/run"
	"lowdown/tree"
)

func (d *desk) addText(words []string) ([]string, api.Errno) {
	more := joined(words...) + "\n"
	if len(d.text)+len(more) > api.MaxText {
		return nil, api.ErrLarge
	}
	d.text += more
	return []string{done}, api.OK
}

// submit tells its error itself, as it alone tells where.
func (d *desk) submit() ([]string, api.Errno) {
	name, at, e := d.daemon.Submit(d.text)
	d.text = ""
	if e != api.OK {
		return []string{joined(failure(e), strconv.Itoa(at))}, api.OK
	}
	return []string{name}, api.OK
}

func (d *desk) cancel(name string) ([]string, api.Errno) {
	if e := d.daemon.Cancel(name); e != api.OK {
		return nil, e
	}
	return []string{done}, api.OK
}

func (d *desk) ask(name string) ([]string, api.Errno) {
	a, e := d.daemon.Query(name)
	if e != api.OK {
		return nil, e
	}
	var out []string
	for _, s := range a.Schemes {
		out = append(out, schemeLine(s))
	}
	for _, w := range a.Diags {
		out = append(out, diagLine(w))
	}
	return append(out, done), api.OK
}

func schemeLine(s api.Scheme) string {
	words := []string{"fun", s.Fun}
	for _, n := range append([]int{s.Result.Mask, s.Result.Level, s.PC}, s.Bounds...) {
		words = append(words, strconv.Itoa(n))
	}
	return joined(words...)
}

func diagLine(w api.Diag) string {
	fun := w.Fun
	if fun == "" {
		fun = "-"
	}
	return joined("wrong", strconv.Itoa(w.Code), fun, w.Name)
}

// put is content with any words for names: a cell of no variable is there without being asked for.
func (d *desk) put(mod, name, value string) ([]string, api.Errno) {
	values, e := numbersOf([]string{value})
	if e != api.OK {
		return nil, e
	}
	cell := api.Cell{Mod: mod, Name: name, Value: values[0]}
	d.store = append([]api.Cell{cell}, d.store...)
	return []string{done}, api.OK
}

func (d *desk) runFun(mod, fun string, words []string) ([]string, api.Errno) {
	args, e := numbersOf(words)
	if e != api.OK {
		return nil, e
	}
	o, e := run.Run(d.daemon.Modules(), mod, fun, args, d.store, fuel)
	if e != api.OK {
		return nil, e
	}
	d.store = o.Store
	var out []string
	for _, p := range o.Prints {
		out = append(out, joined("print", p.Level, strconv.Itoa(p.Value)))
	}
	return append(out, joined("result", strconv.Itoa(o.Result))), api.OK
}

func (d *desk) show(name string) ([]string, api.Errno) {
	for _, m := range d.daemon.Modules() {
		if m.Name != name {
			continue
		}
		text, e := tree.Print(m)
		if e != api.OK {
			return nil, e
		}
		return []string{text}, api.OK
	}
	return nil, api.ErrNone
}
