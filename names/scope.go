package names

import (
	"slices"
	"strings"

	"lowdown/api"
)

// own stands for the module itself, among those of known.
const own = -1

// scope is what calls of a module are looked up in. Its imports are found once, as there may be many calls, and many modules known.
type scope struct {
	m     api.Module
	known []api.Module
	at    []int // of each Import: which of known it is; -1: none
}

func newScope(m api.Module, known []api.Module) scope {
	s := scope{m: m, known: known}
	for _, name := range m.Imports {
		s.at = append(s.at, slices.IndexFunc(known, func(other api.Module) bool { return other.Name == name }))
	}
	return s
}

func (s scope) target(k int, call string) (int, int, bool) {
	mod, fun, dotted := strings.Cut(call, ".")
	if !dotted {
		return found(own, ahead(s.m.Funs, k), call)
	}
	i := slices.Index(s.m.Imports, mod)
	if i < 0 || s.at[i] < 0 {
		return 0, 0, false
	}
	return found(s.at[i], s.known[s.at[i]].Funs, fun)
}

// callCode: 0 is of a call that fits.
func (s scope) callCode(k int, call api.Expr) int {
	at, i, ok := s.target(k, call.Name)
	if !ok {
		return api.DFun
	}
	if len(s.funs(at)[i].Params) != len(call.Args) {
		return api.DArgs
	}
	return 0
}

func (s scope) funs(at int) []api.Fun {
	if at == own {
		return s.m.Funs
	}
	return s.known[at].Funs
}

// ahead takes any k: one beyond the ends has none, or all, ahead of it.
func ahead(funs []api.Fun, k int) []api.Fun {
	return funs[:min(max(k, 0), len(funs))]
}

func found(at int, funs []api.Fun, name string) (int, int, bool) {
	i := slices.IndexFunc(funs, func(f api.Fun) bool { return f.Name == name })
	if i < 0 {
		return 0, 0, false
	}
	return at, i, true
}
