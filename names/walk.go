package names

import "lowdown/api"

// eachCommand goes to those within others too.
func eachCommand(body []api.Stmt, visit func(api.Stmt)) {
	for _, s := range body {
		visit(s)
		eachCommand(s.A, visit)
		eachCommand(s.B, visit)
	}
}

// eachCall goes to those in a call's own Args too.
func eachCall(f api.Fun, visit func(api.Expr)) {
	eachCommand(f.Body, func(s api.Stmt) { callsIn(s.E, visit) })
	callsIn(f.Result, visit)
}

func callsIn(e api.Expr, visit func(api.Expr)) {
	if e.Kind == api.ECall {
		visit(e)
	}
	for _, arg := range e.Args {
		callsIn(arg, visit)
	}
}
