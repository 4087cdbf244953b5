package tree

import (
	"slices"
	"strconv"
	"strings"

	"lowdown/api"
)

// brackets puts lists together whose parts are words, or such brackets themselves: all of the TEXT's blanks are its own.
func brackets(lists ...[]string) string {
	return "(" + strings.Join(slices.Concat(lists...), " ") + ")"
}

func moduleText(m api.Module) string {
	return brackets([]string{"module", m.Name}, importTexts(m.Imports), varTexts(m.Vars), funTexts(m.Funs))
}

func importTexts(imports []string) []string {
	var out []string
	for _, name := range imports {
		out = append(out, brackets([]string{"import", name}))
	}
	return out
}

func varTexts(vars []api.Var) []string {
	var out []string
	for _, v := range vars {
		out = append(out, brackets([]string{"var", v.Name, v.Level}))
	}
	return out
}

func funTexts(funs []api.Fun) []string {
	var out []string
	for _, f := range funs {
		head := []string{"fun", f.Name, brackets(f.Params)}
		out = append(out, brackets(head, commandTexts(f.Body), []string{exprText(f.Result)}))
	}
	return out
}

func commandTexts(body []api.Stmt) []string {
	var out []string
	for _, s := range body {
		out = append(out, commandText(s))
	}
	return out
}

// commandText is told of commands that Check lets go.
func commandText(s api.Stmt) string {
	e := exprText(s.E)
	switch s.Kind {
	case api.SIf:
		return brackets([]string{"if", e, brackets(commandTexts(s.A)), brackets(commandTexts(s.B))})
	case api.SWhile:
		return brackets([]string{"while", e, brackets(commandTexts(s.A))})
	case api.SPrint:
		return brackets([]string{"print", s.Name, e})
	}
	return brackets([]string{"set", s.Name, e})
}

// exprText is told of expressions that Check lets go.
func exprText(e api.Expr) string {
	switch e.Kind {
	case api.ENumber:
		return strconv.Itoa(e.N)
	case api.EOp:
		return brackets([]string{e.Name}, exprTexts(e.Args))
	case api.ECall:
		return brackets([]string{"call", e.Name}, exprTexts(e.Args))
	}
	return e.Name
}

func exprTexts(args []api.Expr) []string {
	var out []string
	for _, arg := range args {
		out = append(out, exprText(arg))
	}
	return out
}
