package run

import (
	"lowdown/api"
	"lowdown/names"
)

// frame is one call of a function, and what that call alone has.
type frame struct {
	*machine
	mod, fun int
	own      map[string]int // the Params, and each name of the function's own that was set
}

// shared is nil of a name that is the call's own. Params are looked for first, as they hide the module's.
func (f *frame) shared(name string) *variable {
	if _, ok := f.own[name]; ok {
		return nil
	}
	return f.places[place{f.mods[f.mod].Name, name}]
}

func (f *frame) get(name string) int {
	v := f.shared(name)
	if v == nil {
		return f.own[name]
	}
	v.read = true
	return v.value
}

func (f *frame) put(name string, value int) {
	v := f.shared(name)
	if v == nil {
		f.own[name] = value
		return
	}
	v.set = true
	v.value = value
}

func (f *frame) doAll(body []api.Stmt) api.Errno {
	for _, s := range body {
		if e := f.do(s); e != api.OK {
			return e
		}
	}
	return api.OK
}

func (f *frame) do(s api.Stmt) api.Errno {
	if e := f.burn(); e != api.OK {
		return e
	}
	if s.Kind == api.SWhile {
		return f.loop(s)
	}
	value, e := f.eval(s.E)
	if e != api.OK {
		return e
	}
	switch {
	case s.Kind == api.SSet:
		f.put(s.Name, value)
	case s.Kind == api.SPrint:
		f.prints = append(f.prints, api.Print{Level: s.Name, Value: value})
	case value != 0:
		return f.doAll(s.A)
	default:
		return f.doAll(s.B)
	}
	return api.OK
}

// loop pays for asking again alone: the first time is paid with the command.
func (f *frame) loop(s api.Stmt) api.Errno {
	for {
		value, e := f.eval(s.E)
		if e != api.OK || value == 0 {
			return e
		}
		if e := f.doAll(s.A); e != api.OK {
			return e
		}
		if e := f.burn(); e != api.OK {
			return e
		}
	}
}

func (f *frame) eval(x api.Expr) (int, api.Errno) {
	switch x.Kind {
	case api.ENumber:
		return x.N, api.OK
	case api.EName:
		return f.get(x.Name), api.OK
	}
	values := make([]int, len(x.Args))
	for i, arg := range x.Args {
		value, e := f.eval(arg)
		if e != api.OK {
			return 0, e
		}
		values[i] = value
	}
	if x.Kind == api.ECall {
		return f.call(x.Name, values)
	}
	return apply(x.Name, values[0], values[1]), api.OK
}

// call asks for fuel first: without it, it isn't seen that there is no such function.
func (f *frame) call(name string, args []int) (int, api.Errno) {
	if e := f.burn(); e != api.OK {
		return 0, e
	}
	mod, fun, ok := names.Target(f.mods[f.mod], f.fun, name, f.mods)
	if !ok {
		return 0, api.ErrNone
	}
	if mod < 0 {
		mod = f.mod
	}
	return f.enter(mod, fun, args)
}

func apply(op string, a, b int) int {
	switch op {
	case "+":
		return a + b
	case "-":
		return a - b
	case "*":
		return a * b
	case "<":
		return truth(a < b)
	}
	return truth(a == b)
}

func truth(holds bool) int {
	if holds {
		return 1
	}
	return 0
}
