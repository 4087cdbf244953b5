package parse

import (
	"strconv"

	"lowdown/api"
)

const maxDigits = 6

// reader goes through words. Once one can't stand where it does it stays there, and finds no word any more, so that whoever reads on comes to an end, and the first fault is the one that is told.
type reader struct {
	words  []string
	starts []int // one more than there are words: where the text ends
	next   int
	depth  int
	failed bool
}

// where is the byte at which the word begins that is next.
func (r *reader) where() int {
	return r.starts[r.next]
}

func (r *reader) fail() {
	r.failed = true
}

// peek tells the empty text, which is no word, if there is none.
func (r *reader) peek() string {
	return r.ahead(0)
}

func (r *reader) second() string {
	return r.ahead(1)
}

func (r *reader) ahead(n int) string {
	if r.failed || r.next+n >= len(r.words) {
		return ""
	}
	return r.words[r.next+n]
}

func (r *reader) take() string {
	w := r.peek()
	if w == "" {
		r.fail()
		return ""
	}
	r.next++
	return w
}

func (r *reader) keyword(want string) {
	if r.peek() != want {
		r.fail()
		return
	}
	r.take()
}

func (r *reader) open() {
	if r.depth == api.MaxDepth {
		r.fail()
	}
	r.keyword("(")
	r.depth++
}

func (r *reader) shut() {
	r.keyword(")")
	r.depth--
}

// end: behind the module there is no word.
func (r *reader) end() {
	if r.peek() != "" {
		r.fail()
	}
}

// name takes whatever is no bracket: tree.Check finds those that are no NAMEs.
func (r *reader) name() string {
	if !isPlain(r.peek()) {
		r.fail()
	}
	return r.take()
}

func (r *reader) number() int {
	w := r.peek()
	if len(w) > maxDigits || len(w) > 1 && w[0] == '0' {
		r.fail()
	}
	n, err := strconv.Atoi(r.take())
	if err != nil {
		return 0
	}
	return n
}

func isPlain(w string) bool {
	return w != "" && w != "(" && w != ")"
}

// isDigits: such a word is meant for a number, be it one or not; one with any other byte is taken for a name.
func isDigits(w string) bool {
	for i := 0; i < len(w); i++ {
		if w[i] < '0' || w[i] > '9' {
			return false
		}
	}
	return w != ""
}

func isOperator(w string) bool {
	switch w {
	case "+", "-", "*", "<", "=":
		return true
	}
	return false
}

func isCommand(w string) bool {
	return commandKind(w) != 0
}

// commandKind: 0 is no command's.
func commandKind(w string) int {
	switch w {
	case "set":
		return api.SSet
	case "if":
		return api.SIf
	case "while":
		return api.SWhile
	case "print":
		return api.SPrint
	}
	return 0
}
