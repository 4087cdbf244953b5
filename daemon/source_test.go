package daemon

import (
	"cmp"
	"reflect"
	"slices"
	"strings"
	"unsafe"

	"lowdown/api"
)

// modules are more than there may be at a time.
var modules = []string{"ma", "mb", "mc", "md", "me", "mf", "mg", "m"}

// source makes texts of modules, the same ones each time.
type source struct {
	state uint64
	l     api.Lattice
}

func (r *source) below(n int) int {
	r.state = r.state*6364136223846793005 + 1442695040888963407
	return int((r.state >> 33) % uint64(n))
}

func (r *source) one(of ...string) string { return of[r.below(len(of))] }

func (r *source) shuffle(list []string) {
	for i := range list {
		j := i + r.below(len(list)-i)
		list[i], list[j] = list[j], list[i]
	}
}

// text has mostly imports that are no reason to go round, and calls that fit, if what is called is there.
func (r *source) text(name string) string {
	parts := []string{"(module", name}
	calls := []string{"x"}
	for _, other := range modules {
		if other > name && r.below(5) == 0 || r.below(40) == 0 {
			parts = append(parts, "(import "+other+")")
			calls = append(calls, "(call "+other+".f p)", "(call "+other+".f x)")
		}
	}
	parts = append(parts, "(var x "+r.level()+")", "(var y "+r.level()+")")
	for _, fun := range []string{"f", "g"}[:1+r.below(2)] {
		parts = append(parts, "(fun "+fun+" (p)", r.commands(2, calls), r.expr(calls)+")")
		calls = append(calls, "(call "+fun+" p)")
	}
	if r.below(30) == 0 {
		parts = append(parts, large())
	}
	return strings.Join(parts, " ") + ")"
}

// level is now and then none.
func (r *source) level() string {
	if r.below(40) == 0 {
		return "none"
	}
	return r.one(r.l.Names...)
}

func (r *source) expr(calls []string) string {
	switch r.below(6) {
	case 0:
		return r.one("0", "1", "7")
	case 1:
		return "(" + r.one("+", "-", "*", "<", "=") + " " + r.one(calls...) + " " + r.one("p", "y", "t") + ")"
	case 2:
		return r.one("p", "t")
	}
	return r.one(calls...)
}

func (r *source) commands(depth int, calls []string) string {
	var out []string
	for range r.below(3) {
		e := r.expr(calls)
		switch k := r.below(6); {
		case k == 0:
			out = append(out, "(print "+r.level()+" "+e+")")
		case k == 1 && depth > 0:
			out = append(out, "(if "+e+" ("+r.commands(depth-1, calls)+") ("+r.commands(depth-1, calls)+"))")
		case k == 2 && depth > 0:
			out = append(out, "(while "+e+" ("+r.commands(depth-1, calls)+"))")
		default:
			out = append(out, "(set "+r.one("x", "y", "t", "p")+" "+e+")")
		}
	}
	return strings.Join(out, " ")
}

// ink fills what it is given, so that a write to it is seen.
func ink(v reflect.Value) {
	switch v.Kind() {
	case reflect.String:
		v.SetString("spare")
	case reflect.Int:
		v.SetInt(1)
	case reflect.Bool:
		v.SetBool(true)
	case reflect.Slice:
		v = v.Slice(0, v.Cap())
		for i := range v.Len() {
			ink(v.Index(i))
		}
	case reflect.Struct:
		for i := range v.NumField() {
			ink(v.Field(i))
		}
	}
}

// copyOf is a copy with as much inked room behind each list; with toEnd what was room is part of the list.
func copyOf(v reflect.Value, room int, toEnd bool) reflect.Value {
	out := reflect.New(v.Type()).Elem()
	switch v.Kind() {
	case reflect.Slice:
		if toEnd {
			v = v.Slice(0, v.Cap())
		}
		n := v.Len()
		out = reflect.MakeSlice(v.Type(), n+room, n+room)
		for i := range n {
			out.Index(i).Set(copyOf(v.Index(i), room, toEnd))
		}
		for i := range room {
			ink(out.Index(n + i))
		}
		return out.Slice(0, n)
	case reflect.Struct:
		for i := range v.NumField() {
			out.Field(i).Set(copyOf(v.Field(i), room, toEnd))
		}
	default:
		out.Set(v)
	}
	return out
}

func roomy[T any](x T) T { return copyOf(reflect.ValueOf(x), 2, false).Interface().(T) }

func toEnd[T any](x T) T { return copyOf(reflect.ValueOf(x), 0, true).Interface().(T) }

// span is the memory of a list, its room too.
type span struct{ from, to uintptr }

// spans has the bytes of texts too, if asked for.
func spans(v reflect.Value, texts bool) []span {
	var out []span
	switch v.Kind() {
	case reflect.String:
		if s := v.String(); texts && s != "" {
			at := uintptr(unsafe.Pointer(unsafe.StringData(s)))
			out = append(out, span{at, at + uintptr(len(s))})
		}
	case reflect.Slice:
		v = v.Slice(0, v.Cap())
		if v.Len() > 0 {
			out = append(out, span{v.Pointer(), v.Pointer() + uintptr(v.Len())*v.Type().Elem().Size()})
		}
		for i := range v.Len() {
			out = append(out, spans(v.Index(i), texts)...)
		}
	case reflect.Struct:
		for i := range v.NumField() {
			out = append(out, spans(v.Field(i), texts)...)
		}
	}
	return out
}

// share: whether any two lists, of one thing or of two, have memory in common.
func share(things ...any) bool {
	var all []span
	for _, thing := range things {
		all = append(all, spans(reflect.ValueOf(thing), false)...)
	}
	slices.SortFunc(all, func(a, b span) int { return cmp.Compare(a.from, b.from) })
	for i := range len(all) - 1 {
		if all[i].to > all[i+1].from {
			return true
		}
	}
	return false
}

// keeps: whether a has memory of b, that of texts included.
func keeps(a, b any) bool {
	for _, x := range spans(reflect.ValueOf(a), true) {
		for _, y := range spans(reflect.ValueOf(b), true) {
			if x.from < y.to && y.from < x.to {
				return true
			}
		}
	}
	return false
}
