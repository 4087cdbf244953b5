package run

import (
	"slices"

	"lowdown/api"
)

// machine is one run: what all the calls in it share.
type machine struct {
	mods   []api.Module
	vars   []*variable // as Store tells them
	places map[place]*variable
	fuel   int
	prints []api.Print
}

// place is where a module's variable is found. It goes by names, as a call never comes to any but the first module of a name.
type place struct{ mod, name string }

// variable of a module; what was done with it stands by its value, for Did.
type variable struct {
	place
	value     int
	read, set bool
}

func newMachine(l []api.Module, store []api.Cell, fuel int) *machine {
	m := &machine{mods: l, places: map[place]*variable{}, fuel: fuel}
	for i, mod := range l {
		if moduleAt(l, mod.Name) < i {
			continue
		}
		for _, v := range mod.Vars {
			m.add(place{mod.Name, v.Name}, store)
		}
	}
	return m
}

func (m *machine) add(p place, store []api.Cell) {
	if m.places[p] != nil {
		return
	}
	v := &variable{place: p}
	if i := slices.IndexFunc(store, func(c api.Cell) bool { return c.Mod == p.mod && c.Name == p.name }); i >= 0 {
		v.value = store[i].Value
	}
	m.vars = append(m.vars, v)
	m.places[p] = v
}

func (m *machine) burn() api.Errno {
	if m.fuel == 0 {
		return api.ErrFuel
	}
	m.fuel--
	return api.OK
}

// enter runs function fun of module mod, and tells its Result.
func (m *machine) enter(mod, fun int, args []int) (int, api.Errno) {
	f := m.mods[mod].Funs[fun]
	if len(f.Params) != len(args) {
		return 0, api.ErrForm
	}
	c := &frame{machine: m, mod: mod, fun: fun, own: map[string]int{}}
	for i, name := range f.Params {
		c.own[name] = args[i]
	}
	if e := c.doAll(f.Body); e != api.OK {
		return 0, e
	}
	return c.eval(f.Result)
}

// outcome: P13.
func (m *machine) outcome(result int) Outcome {
	o := Outcome{Result: result, Prints: m.prints}
	for _, v := range m.vars {
		o.Store = append(o.Store, api.Cell{Mod: v.mod, Name: v.name, Value: v.value})
		if v.read {
			o.Did = append(o.Did, "r:"+v.mod+"."+v.name)
		}
		if v.set {
			o.Did = append(o.Did, "w:"+v.mod+"."+v.name)
		}
	}
	for _, p := range m.prints {
		o.Did = append(o.Did, "p:"+p.Level)
	}
	slices.Sort(o.Did)
	o.Did = slices.Compact(o.Did)
	return o
}
