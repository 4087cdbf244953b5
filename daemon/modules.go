package daemon

import (
	"slices"

	"lowdown/api"
)

// Modules are all modules, by their names, rising. They are copies, so that whoever writes to them changes nothing of the daemon.
func (d *Daemon) Modules() []api.Module {
	return each(d.mods, copiedModule)
}

func copiedModule(m api.Module) api.Module {
	m.Imports = slices.Clone(m.Imports)
	m.Vars = slices.Clone(m.Vars)
	m.Funs = each(m.Funs, copiedFun)
	return m
}

func copiedFun(f api.Fun) api.Fun {
	f.Params = slices.Clone(f.Params)
	f.Body = each(f.Body, copiedCommand)
	f.Result = copiedExpr(f.Result)
	return f
}

func copiedCommand(s api.Stmt) api.Stmt {
	s.E = copiedExpr(s.E)
	s.A = each(s.A, copiedCommand)
	s.B = each(s.B, copiedCommand)
	return s
}

func copiedExpr(e api.Expr) api.Expr {
	e.Args = each(e.Args, copiedExpr)
	return e
}

// each is a new list of what of tells of each thing in list.
func each[T any](list []T, of func(T) T) []T {
	var out []T
	for _, thing := range list {
		out = append(out, of(thing))
	}
	return out
}
