package desk

import (
	"slices"
	"strconv"
	"strings"
	"testing"

	"lowdown/api"
)

// expect: a script's lines, and all lines that answer them.
func expect(t *testing.T, script, want []string) {
	t.Helper()
	expectText(t, strings.Join(script, "\n")+"\n", want...)
}

// expectText: the text as it is, and the answers' lines.
func expectText(t *testing.T, text string, want ...string) {
	t.Helper()
	whole := strings.Join(append(want, ""), "\n")
	if got := Run(text); got != whole {
		t.Errorf("%.300q: %.500q; want %.500q", text, got, whole)
	}
}

// session is a script that is written together with what it must answer.
type session struct{ lines, answers []string }

func (s *session) line(line string, answers ...string) {
	s.lines = append(s.lines, line)
	s.answers = append(s.answers, answers...)
}

// tell submits a module that is accepted, in one line.
func (s *session) tell(text string) {
	s.line("text "+text, "ok")
	words := strings.FieldsFunc(text, func(r rune) bool { return r < 'a' || r > 'z' })
	s.line("submit", words[1])
}

func (s *session) expect(t *testing.T) {
	t.Helper()
	expect(t, s.lines, s.answers)
}

// TestExample: a line of each kind, in one session.
func TestExample(t *testing.T) {
	var s session
	s.line("# a counter, and one that asks it")
	s.line("text (module counter (var n low)", "ok")
	s.line("text   (fun add (by)  (set n (+ n by)) (print high n) n))", "ok")
	s.line("submit", "counter")
	s.line("show counter", "(module counter (var n low) (fun add (by) (set n (+ n by)) (print high n) n))")
	s.line("ask counter", "fun add 0 0 0 0", "ok")
	s.line("")
	s.line("put counter n 40", "ok")
	s.line("run counter add 2", "print high 42", "result 42")
	s.line("run counter add 1", "print high 43", "result 43")
	s.tell("(module user (import counter) (var secret high) (fun f () (call counter.add secret)))")
	s.line("ask user", "wrong 6 f counter.add", "ok")
	s.line("cancel counter", "ok")
	s.line("ask user", "wrong 1 - counter", "wrong 4 f counter.add", "ok")
	s.line("run user f", "error 4")
	s.line("show counter", "error 4")
	s.expect(t)
}

// TestLines: what is a line, and how many there may be.
func TestLines(t *testing.T) {
	expectText(t, "")
	expectText(t, "\n")
	expectText(t, "\n\n\n")
	expectText(t, "x", "error 3")
	expectText(t, "x\n", "error 3")
	expectText(t, "\nx\n\nx", "error 3", "error 3")
	expectText(t, "x\ny\n\n", "error 3", "error 3")
	expectText(t, "put a b 1\r\n", "error 3")
	for _, line := range []string{"", " ", "#", "x"} {
		var want []string
		if line == "x" {
			want = slices.Repeat([]string{"error 3"}, 200)
		}
		most := strings.Repeat(line+"\n", 200)
		expectText(t, most, want...)
		expectText(t, most+line+"\n", "error 2")
		expectText(t, most+"\n", "error 2")
		expectText(t, most+"x", "error 2")
		expectText(t, most+" ", "error 2")
		expectText(t, strings.Repeat(line+"\n", 199)+"#", want[:min(199, len(want))]...)
	}
	// the last line is one without a byte 10 behind it too
	expectText(t, strings.Repeat("\n", 199)+"x", "error 3")
}

// TestBytes: how many bytes there may be, however many lines they are.
func TestBytes(t *testing.T) {
	const most = 65536
	expectText(t, "x\n#"+strings.Repeat("a", most-3), "error 3")
	expectText(t, "x\n#"+strings.Repeat("a", most-2), "error 2")
	expectText(t, strings.Repeat(" ", most))
	expectText(t, strings.Repeat(" ", most+1), "error 2")
	expectText(t, "put a b 1\n"+strings.Repeat(" ", most-11)+"\n", "ok")
	expectText(t, "put a b 1\n"+strings.Repeat(" ", most-10)+"\n", "error 2")
	expectText(t, strings.Repeat("\n", most), "error 2")
	expectText(t, strings.Repeat("x", most), "error 3")
	expectText(t, strings.Repeat("\xff", 1<<20), "error 2")
}

// TestWords: blanks alone part words, and any number of them.
func TestWords(t *testing.T) {
	expect(t, []string{"  put   a  b   1  ", "put a b 1", "   submit   "}, []string{"ok", "ok", "error 3 0"})
	for _, other := range []string{"\t", "\r", "\x00", "\v", "\f", "\u00a0", "\u2003", "\xff", "\x85", ","} {
		expect(t, []string{"put" + other + "a b 1", "put a" + other + "b 1", "put a b 1" + other, other + "submit", "submit" + other}, []string{"error 3", "error 3", "error 3", "error 3", "error 3"})
		// in a word it may stand
		expect(t, []string{"put a" + other + " b 1", "cancel a" + other + "b", "text a" + other}, []string{"ok", "error 4", "ok"})
		expectText(t, other, "error 3")
	}
}

// TestNotAnswered: lines without words, and remarks, whatever stands in them.
func TestNotAnswered(t *testing.T) {
	for _, line := range []string{"", " ", "     ", "#", "##", "# submit", "#submit", "   #x y", "#\xff\x00", "# text (module m)"} {
		expect(t, []string{line}, nil)
		expect(t, []string{"put a b 1", line, "cancel a"}, []string{"ok", "error 4"})
	}
	expect(t, []string{"submit #", "x#", "put a b 1 # c", "\t#"}, []string{"error 3", "error 3", "error 3", "error 3"})
	// elsewhere than in front it is a byte like others
	expect(t, []string{"put # # 1", "text # a", "submit", "show #"}, []string{"ok", "ok", "error 3 0", "error 4"})
}

// TestWrongLines: other first words, and other numbers of words than there must be; none of them does anything.
func TestWrongLines(t *testing.T) {
	for _, line := range []string{
		"x", "Submit", "SUBMIT", "ok", "error 3", "tex a", "texts a", "-", "0", "module m", "(module m)", "names", "query m", "help",
		"text", "  text  ", "submit m", "submit submit", "cancel", "cancel m n", "ask", "ask m m", "show", "show m m",
		"put", "put m", "put m x", "put m x 1 2", "put 1", "run", "run m", "run  m  ",
	} {
		var s session
		s.tell("(module m (var x low) (fun f () x))")
		s.line("put m x 7", "ok")
		s.line("text (module n", "ok")
		s.line(line, "error 3")
		s.line("text )", "ok")
		s.line("submit", "n")
		s.line("run m f", "result 7")
		s.expect(t)
	}
}

// TestNumbers: one to six digits without noughts ahead.
func TestNumbers(t *testing.T) {
	var before session
	before.tell("(module m (var x low) (fun f (p) p) (fun two (p q) (- p q)) (fun g () x))")
	before.line("put m x 5", "ok")
	for _, n := range []string{"0", "1", "9", "10", "99", "100", "100000", "123456", "999999"} {
		s := session{slices.Clone(before.lines), slices.Clone(before.answers)}
		s.line("put m x "+n, "ok")
		s.line("run m g", "result "+n)
		s.line("run m f "+n, "result "+n)
		s.line("run m two "+n+" 0", "result "+n)
		s.line("run m two 0 "+n, strings.Replace("result -"+n, "-0", "0", 1))
		s.expect(t)
	}
	for _, n := range []string{"00", "01", "007", "000000", "0000001", "1000000", "9999999", "99999999999999999999", "-1", "-0", "+1", "1.0", "1e3", "0x1", "1_0", "a", "m", "1a", "a1", "-", ".", "\u0661", "\xff", "1\t", "1\r"} {
		s := session{slices.Clone(before.lines), slices.Clone(before.answers)}
		s.line("put m x "+n, "error 3")
		s.line("put "+n+" "+n+" 1", "ok")
		s.line("run m f "+n, "error 3")
		s.line("run m two "+n+" 1", "error 3")
		s.line("run m two 1 "+n, "error 3")
		s.line("run m g", "result 5")
		// told ahead of what run.Run would tell
		s.line("run m none "+n, "error 3")
		s.line("run none f 1 2 3 4 5 6 "+n, "error 3")
		s.line("run m f 1 "+n, "error 3")
		s.expect(t)
	}
}

// TestText: what is in it, as Submit tells at which byte it can't be read.
func TestText(t *testing.T) {
	for text, at := range map[string]int{
		"text (module q":                   10,
		"text    (module    q   ":          10,
		"text (module\ntext q":             10,
		"text (\ntext   module  \ntext  q": 11,
		"text \t":                          0,
		"text (module q\ttext":             9,
		"text text":                        0,
		"text (module q)\ntext )":          11,
		"text (module q) text)":            11,
		"text (module q)\nx\ntext x":       11,
	} {
		got := Run(text + "\nsubmit\n")
		if want := "error 3 " + strconv.Itoa(at) + "\n"; !strings.HasSuffix(got, "ok\n"+want) {
			t.Errorf("%q: %q; want %q", text, got, want)
		}
	}
	// a byte 10 is behind each line's words, so that they are no word together with the next line's
	expect(t, []string{"text (mod", "text ule m)", "submit"}, []string{"ok", "ok", "error 3 1"})
	expect(t, []string{"text (", "text module m", "text )", "submit", "show m"}, []string{"ok", "ok", "ok", "m", "(module m)"})
}

// TestTextIsFull: at most 4096 bytes, each byte 10 counted; what is too much is left out, and what is there stays.
func TestTextIsFull(t *testing.T) {
	// fill is a line that makes so many bytes in the text
	fill := func(bytes int) string { return "text (module m)" + " " + strings.Repeat("x", bytes-12) }
	expect(t, []string{fill(4096), "submit"}, []string{"ok", "error 3 11"})
	expect(t, []string{fill(4097), "submit"}, []string{"error 2", "error 3 0"})
	expect(t, []string{fill(4094), "text x", "submit"}, []string{"ok", "ok", "error 3 11"})
	expect(t, []string{fill(4095), "text x", "submit"}, []string{"ok", "error 2", "error 3 11"})
	expect(t, []string{fill(4096), "text x", "text x", "submit", "text (module m)", "submit"}, []string{"ok", "error 2", "error 2", "error 3 11", "ok", "m"})
	expect(t, []string{"text (module", fill(5000), "text m", "text )", "submit"}, []string{"ok", "error 2", "ok", "ok", "m"})
	// blanks between words count once, and those behind the last one not at all
	expect(t, []string{"text (module m)" + strings.Repeat(" ", 5000), "submit"}, []string{"ok", "m"})
	expect(t, []string{"text (module" + strings.Repeat(" ", 5000) + "m)", "submit"}, []string{"ok", "m"})
	// a module of 4096 bytes is read
	whole := "(module m (fun f () " + strings.Repeat("(set x (+ x 1)) ", 253) + "(set y 10000) (set y 1) x))"
	if len(whole)+1 != api.MaxText {
		t.Fatal("the test itself is wrong", len(whole))
	}
	expect(t, []string{"text " + whole, "submit", "run m f"}, []string{"ok", "m", "result 253"})
	expect(t, []string{"text " + whole + ")", "submit"}, []string{"error 2", "error 3 0"})
}

// TestSubmit: what it tells, and that the text is empty then, whatever it told.
func TestSubmit(t *testing.T) {
	for text, want := range map[string]string{
		"(module m)":                       "m",
		"(module m":                        "error 3 10",
		"(module m))":                      "error 3 10",
		"(module M)":                       "error 3 8",
		"(module m (fun f () 01))":         "error 3 20",
		"(module averylong)":               "error 5 0",
		"(module m (fun f (a b c d e) 1))": "error 2 0",
		"(module m" + strings.Repeat(" (import b)", 9) + ")": "error 2 0",
		"(module m (fun f (p.q) 1))":                         "error 5 0",
	} {
		expect(t, []string{"submit", "text " + text, "submit", "submit", "text (module n)", "submit"}, []string{"error 3 0", "ok", want, "error 3 0", "ok", "n"})
	}
}

// TestSixModules: no seventh one, but in the place of one of its name.
func TestSixModules(t *testing.T) {
	var s session
	for _, name := range []string{"c", "a", "f", "b", "e", "d"} {
		s.tell("(module " + name + ")")
	}
	s.line("text (module g)", "ok")
	s.line("submit", "error 2 0")
	s.line("submit", "error 3 0")
	s.line("show g", "error 4")
	s.tell("(module c (var x low))")
	s.line("show c", "(module c (var x low))")
	s.line("cancel a", "ok")
	s.tell("(module g)")
	s.line("show g", "(module g)")
	s.line("show a", "error 4")
	s.expect(t)
}

// TestCancel: a module is gone, and the others stay.
func TestCancel(t *testing.T) {
	var s session
	s.line("cancel a", "error 4")
	s.tell("(module a (fun f () 1))")
	s.tell("(module b (fun f () 2))")
	for _, name := range []string{"c", "A", "f", "low", "(module", "aa", "0"} {
		s.line("cancel "+name, "error 4")
	}
	s.line("cancel a", "ok")
	s.line("cancel a", "error 4")
	s.line("ask a", "error 4")
	s.line("run a f", "error 4")
	s.line("show a", "error 4")
	s.line("run b f", "result 2")
	s.tell("(module a (fun f () 3))")
	s.line("run a f", "result 3")
	s.expect(t)
}

// TestAskSchemes: each function's, in order: Mask and Level of Result, PC, Bounds.
func TestAskSchemes(t *testing.T) {
	var s session
	s.tell("(module none)")
	s.line("ask none", "ok")
	s.tell("(module m (var x low) (var y high) (fun a () 1) (fun b () x) (fun c () y) (fun d (p q r s) (set x q) (set y r) (+ p s)) (fun e (p) (call d 1 2 p y)) (fun f (p) (print high p) (print low 1) p) (fun g (p) (print high p) 0))")
	s.line("ask m",
		"fun a 0 0 1",
		"fun b 0 0 1",
		"fun c 0 1 1",
		"fun d 9 0 0 1 0 1 1",
		"fun e 0 1 0 1",
		"fun f 1 0 0 1",
		"fun g 0 0 1 1",
		"ok")
	s.line("ask none", "ok")
	s.expect(t)
}

// TestAskWrong: each diagnostic, with its function, or `-`.
func TestAskWrong(t *testing.T) {
	var s session
	s.tell("(module m (import m) (var x none) (var x low) (fun f (p p) (print odd 1) (call g 1)) (fun g () (call f 1)))")
	s.line("ask m", "wrong 8 - m", "ok")
	s.tell("(module m (import gone) (var x none) (var x low) (fun f (p p) (print odd 1) (call g 1)) (fun g () (call f 1)))")
	s.line("ask m", "wrong 1 - gone", "wrong 2 - x", "wrong 3 - none", "wrong 2 f p", "wrong 3 f odd", "wrong 4 f g", "wrong 5 g f", "ok")
	s.tell("(module n (import m))")
	s.line("ask n", "wrong 7 - m", "ok")
	s.tell("(module m (var x low) (var y high) (fun f () (set x y) 0) (fun g () (print low y) 0))")
	s.line("ask m", "wrong 6 f x", "wrong 6 g low", "ok")
	s.line("ask n", "wrong 7 - m", "ok")
	s.tell("(module m)")
	s.line("ask m", "ok")
	s.line("ask n", "ok")
	for _, name := range []string{"gone", "x", "M", "(", "-"} {
		s.line("ask "+name, "error 4")
	}
	s.expect(t)
}

// TestAskLarge: a function with more than 40 variables is too much, for what imports it too.
func TestAskLarge(t *testing.T) {
	var s session
	s.line("text (module m (fun f ()", "ok")
	for i := range 41 {
		s.line("text (set v"+string(rune('a'+i/26))+string(rune('a'+i%26))+" 1)", "ok")
	}
	s.line("text 0))", "ok")
	s.line("submit", "m")
	s.tell("(module n (import m))")
	s.line("ask m", "error 2")
	s.line("ask n", "error 2")
	s.line("run m f", "result 0")
	s.expect(t)
}

// TestLevels: there are low and high, low is number 0, and what is high doesn't go to low.
func TestLevels(t *testing.T) {
	var s session
	s.tell("(module m (var x low) (var y high) (fun f () x) (fun g () y) (fun h () (set y x) 0))")
	s.line("ask m", "fun f 0 0 1", "fun g 0 1 1", "fun h 0 0 1", "ok")
	s.tell("(module n (var a middle) (var b l) (var c high))")
	s.line("ask n", "wrong 3 - l", "wrong 3 - middle", "ok")
	s.expect(t)
}

// TestPut: the cell that was put last is the one that counts, until a run tells another store.
func TestPut(t *testing.T) {
	var s session
	s.line("put m x 1", "ok")
	s.line("put m x 2", "ok")
	s.line("put n x 3", "ok")
	s.line("put m y 4", "ok")
	s.line("put x m 5", "ok")
	s.tell("(module m (var x low) (var y high) (var z low) (fun f () (+ (* 100 x) (+ (* 10 y) z))) (fun g () (set x (+ x 1)) x))")
	s.line("run m f", "result 240")
	s.line("put m z 7", "ok")
	s.line("run m f", "result 247")
	s.line("run m g", "result 3")
	s.line("run m g", "result 4")
	s.line("put m x 8", "ok")
	s.line("put m x 6", "ok")
	s.line("run m g", "result 7")
	s.line("run m f", "result 747")
	s.expect(t)
	// names are any words
	expect(t, []string{"put ( ) 1", "put M averylongname 1", "put m.x # 0", "put 1 2 3"}, []string{"ok", "ok", "ok", "ok"})
}

// TestStore: it is then the Outcome's, which has cells of those modules alone that are there.
func TestStore(t *testing.T) {
	var s session
	x := "(module m (var x low) (fun f () x) (fun g (p) (set x p) 0))"
	s.tell(x)
	s.tell("(module n (fun f () 0))")
	s.line("put m x 5", "ok")
	s.line("put later y 6", "ok")
	// without a run between, cells stay, whatever modules come and go
	s.line("cancel m", "ok")
	s.tell(x)
	s.line("ask m", "fun f 0 0 1", "fun g 0 0 0 0", "ok")
	s.line("show m", x)
	s.line("run m none", "error 4")
	s.line("run m f", "result 5")
	// later wasn't there when that was run
	s.tell("(module later (var y low) (fun f () y))")
	s.line("run later f", "result 0")
	s.line("run m f", "result 5")
	s.line("run m g 9", "result 0")
	s.line("cancel m", "ok")
	s.line("run m f", "error 4")
	s.tell(x)
	s.line("run m f", "result 9")
	s.line("cancel m", "ok")
	s.line("run n f", "result 0")
	s.tell(x)
	s.line("run m f", "result 0")
	s.expect(t)
}

// TestRun: prints, in order, and the result; errors, each of which leaves the store as it was.
func TestRun(t *testing.T) {
	var s session
	s.tell("(module m (import n) (var x low) (fun f (p) (set x (+ x 1)) (print low p) (print odd (- 0 p)) (print high (call n.g p)) (- 3 p)) (fun wrong () (set x 50) (print low 1) (call n.none)) (fun args () (set x 60) (call n.g)) (fun four (a b c d) (- (- a b) (- c d))) (fun none () 0) (fun round (p) (set x 70) (while 1 ()) 0) (fun value () x))")
	s.tell("(module n (var y high) (fun g (p) (set y (+ y p)) (print low 77) y))")
	s.line("run m none", "result 0")
	s.line("run m f 10", "print low 10", "print odd -10", "print low 77", "print high 10", "result -7")
	s.line("run m f 5", "print low 5", "print odd -5", "print low 77", "print high 15", "result -2")
	s.line("run m four 9 7 5 1", "result -2")
	s.line("run m value", "result 2")
	for line, e := range map[string]string{
		"run m gone":         "error 4",
		"run gone f 1":       "error 4",
		"run n.g g 1":        "error 4",
		"run m f":            "error 5",
		"run m f 1 2":        "error 5",
		"run m none 0":       "error 5",
		"run m f 1 2 3 4 5":  "error 5",
		"run m four 1 2 3":   "error 5",
		"run m wrong":        "error 4",
		"run m args":         "error 5",
		"run m round 1":      "error 6",
		"run m gone 1 2 3 4": "error 4",
	} {
		s.line(line, e)
	}
	s.line("run m value", "result 2")
	s.line("run n g 0", "print low 77", "result 15")
	s.expect(t)
}

// TestRunValues: they have 64 bits, and go round.
func TestRunValues(t *testing.T) {
	var s session
	s.tell("(module m (var x low) (fun f () (set x 1) (while (< i 63) ((set x (* x 2)) (set i (+ i 1)))) (print low x) (print high (- x 1)) (+ x x)) (fun g () (- x 1)))")
	s.line("run m f", "print low -9223372036854775808", "print high 9223372036854775807", "result 0")
	s.line("run m g", "result 9223372036854775807")
	s.expect(t)
}

// TestRunFuel: there is 1000 of it, each time anew. A loop needs 1, and 2 each time that it goes round.
func TestRunFuel(t *testing.T) {
	var s session
	s.tell("(module m (fun f (n) (while (< i n) ((set i (+ i 1)))) i) (fun g (n) (set i 0) (while (< i n) ((set i (+ i 1)))) i) (fun h (n) (set j 0) (set i 0) (while (< i n) ((set i (+ i 1)))) i))")
	s.line("run m f 499", "result 499")
	s.line("run m f 500", "error 6")
	s.line("run m g 499", "result 499")
	s.line("run m h 499", "error 6")
	s.line("run m h 498", "result 498")
	s.line("run m g 499", "result 499")
	// calls that go round come to no end but that
	s.tell("(module a (import b) (fun f () (call b.f)))")
	s.tell("(module b (import a) (fun f () (call a.f)))")
	s.line("run a f", "error 6")
	s.expect(t)
	var many session
	many.tell("(module m (fun f () (while 1 ((print low 1))) 0) (fun g () (while (< i 333) ((print low i) (set i (+ i 1)))) i))")
	many.line("run m f", "error 6")
	var prints []string
	for i := range 333 {
		prints = append(prints, "print low "+strconv.Itoa(i))
	}
	many.line("run m g", append(prints, "result 333")...)
	many.expect(t)
}

// TestRunWrongModules: running doesn't ask what ask tells.
func TestRunWrongModules(t *testing.T) {
	var s session
	s.tell("(module m (import gone) (var x low) (var y high) (fun f (p p) (set x y) (print low y) (+ x p)) (fun f () 0))")
	s.line("put m y 6", "ok")
	s.line("run m f 1 2", "print low 6", "result 8")
	s.line("run m f", "error 5")
	s.expect(t)
}

// TestShow: the module's text as tree.Print has it, not as it was told.
func TestShow(t *testing.T) {
	var s session
	s.line("show m", "error 4")
	s.line("text (module m(fun f(p)(if p((set x 1))()) x)", "ok")
	s.line("text (var x   low)", "ok")
	s.line("text (import b) )", "ok")
	s.line("show m", "error 4")
	s.line("submit", "m")
	s.line("show m", "(module m (import b) (var x low) (fun f (p) (if p ((set x 1)) ()) x))")
	s.line("show b", "error 4")
	s.line("show f", "error 4")
	s.tell("(module m)")
	s.line("show m", "(module m)")
	s.expect(t)
	// its text may be longer than one that is read
	script := "text (module m(fun f()" + strings.Repeat("(set x(+ 1 1))", 290) + "x))\nsubmit\nshow m\n"
	expectText(t, script, "ok", "m", "(module m (fun f () "+strings.Repeat("(set x (+ 1 1)) ", 290)+"x))")
}

// TestNothingIsKept: a desk begins anew each time, whatever was done at another one.
func TestNothingIsKept(t *testing.T) {
	first := "text (module m (var x low) (fun f () (set x (+ x 1)) x))\nsubmit\nput m x 3\nrun m f\ntext (module"
	other := "submit\nask m\nrun m f\nshow m\ntext (module m (var x low) (fun f () x))\nsubmit\nrun m f\n"
	for range 3 {
		expectText(t, first, "ok", "m", "ok", "result 4", "ok")
		expectText(t, other, "error 3 0", "error 4", "error 4", "error 4", "ok", "m", "result 0")
		expectText(t, strings.Repeat("\n", 201), "error 2")
	}
}
