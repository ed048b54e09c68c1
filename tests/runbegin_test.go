package tests

import (
	"fmt"
	"strings"
	"testing"

	"loop.example/stowage/impl"
)

// begins is a beginning that prints a number, and does more behind that.
func begins(n int, more ...string) string {
	out := fmt.Sprint("method begin ()V 1 3 1\npush ", n, "\nprint\n")
	for _, ops := range more {
		out += lines(ops) + "\n"
	}
	return out + "give\n"
}

// breaks is a beginning that prints a number, and throws then.
func breaks(n int) string {
	return fmt.Sprint("method begin ()V 1 1 0\npush ", n, "\nprint\nnull\nthrow\n")
}

// states are State and Begun of each class behind the first two, as `NAME STATE BEGUN`.
func states(w impl.World) string {
	out := ""
	for _, c := range w.Classes[2:] {
		out += fmt.Sprint(c.Name, " ", c.State, " ", c.Begun, ", ")
	}
	return out
}

// acts are the methods that were begun, as `CLASS.METHOD@PC`, with `*` behind a beginning.
func acts(r impl.Run) string {
	out := ""
	for _, a := range r.Acts {
		c := r.World.Classes[a.Class]
		out += fmt.Sprint(c.Name, ".", c.File.Pool[c.File.Methods[a.At].Name-1].Text, "@", a.Pc)
		if a.Begins != -1 {
			out += "*"
		}
		out += " "
	}
	return out
}

func wantStates(t *testing.T, s impl.Start, steps int, wantActs string, wantStates string) {
	t.Helper()
	r := impl.RunTo(s, steps)
	if got := acts(r); got != wantActs {
		t.Errorf("behind %d steps: %s, wanted %s", steps, got, wantActs)
	}
	if got := states(r.World); got != wantStates {
		t.Errorf("behind %d steps: %s, wanted %s", steps, got, wantStates)
	}
}

// beginStart is a start of M with ops, beside other classes.
func beginStart(t *testing.T, ops string, src string) impl.Start {
	t.Helper()
	s := startOf(loaderOf(t, -1, mainOf(3, 1, lines(ops))+src))
	s.Prove = true
	return s
}

// A class begins once, ahead of its first use, behind what is above it; the op is done anew behind each beginning.
func TestRunBegins(t *testing.T) {
	a := "class A Obj 0\nfield s I 1\nfield i I 0\nmethod t ()V 1 0 0\ngive\n" + begins(1)
	b := "class B A 0\nfield u I 1\nmethod v ()V 1 0 0\ngive\n" + begins(2)
	c := "class C B 0\nfield w I 1\n"
	for _, x := range []runCase{
		{"new A / pop / give", "fine 7: 1"},
		{"new A / pop / new A / pop / getall A s I / pop / give", "fine 11: 1"},
		{"new B / pop / give", "fine 11: 1 2"},
		{"new B / pop / new A / pop / new B / pop / give", "fine 15: 1 2"},
		{"new A / pop / new B / pop / give", "fine 13: 1 2"},
		{"new C / pop / give", "fine 11: 1 2"},
		{"new A / pop / push 9 / print / new C / pop / give", "fine 15: 1 9 2"},
		{"getall A s I / pop / give", "fine 7: 1"},
		{"push 3 / putall A s I / give", "fine 7: 1"},
		{"static A t ()V / give", "fine 7: 1"},
		{"getall B u I / pop / give", "fine 11: 1 2"},
		{"push 3 / putall B u I / give", "fine 11: 1 2"},
		{"static B v ()V / give", "fine 11: 1 2"},
		{"getall C w I / pop / give", "fine 11: 1 2"},
		// Who is begun is the one whose it is, not the one by which it is found.
		{"getall B s I / pop / give", "fine 7: 1"},
		{"push 3 / putall C s I / give", "fine 7: 1"},
		{"static C t ()V / give", "fine 7: 1"},
		{"getall C u I / pop / give", "fine 11: 1 2"},
		{"static C v ()V / give", "fine 11: 1 2"},
		// All else begins nothing.
		{"null / cast B / is A / print / give", "fine 5: 0"},
		{"null / get B i I / print / give", "thrown Err 2"},
		{"push 9 / print / give", "fine 3: 9"},
	} {
		wantBoth(t, x.ops, beginStart(t, x.ops, a+b+c), x.want)
	}
	s := beginStart(t, "new C / pop / give", a+b+c)
	wantStates(t, s, 0, "M.main@0 ", "M 2 2, ")
	wantStates(t, s, 1, "M.main@0 A.begin@0* ", "M 2 2, A 2 1, B 2 0, C 2 0, ")
	wantStates(t, s, 3, "M.main@0 A.begin@4* ", "M 2 2, A 2 1, B 2 0, C 2 0, ")
	wantStates(t, s, 4, "M.main@0 ", "M 2 2, A 2 2, B 2 0, C 2 0, ")
	wantStates(t, s, 5, "M.main@0 B.begin@0* ", "M 2 2, A 2 2, B 2 1, C 2 0, ")
	wantStates(t, s, 8, "M.main@0 ", "M 2 2, A 2 2, B 2 2, C 2 0, ")
	wantStates(t, s, 9, "M.main@3 ", "M 2 2, A 2 2, B 2 2, C 2 2, ")
	wantStates(t, s, 11, "", "M 2 2, A 2 2, B 2 2, C 2 2, ")
}

// Faces begin like others, by themselves.
func TestRunBeginsFaces(t *testing.T) {
	src := "class F Obj 5\nfield s I 1\n" + asks("f", "()V") + "method t ()V 1 0 0\ngive\n" + begins(1) + "class A Obj 0\nface F\n" + does("f", "()V", 0) + "class B A 0\n" + begins(2) + "class G Obj 5\nface F\n" + begins(3)
	for _, x := range []runCase{
		{"new A / pop / give", "fine 3"},
		{"new B / pop / give", "fine 7: 2"},
		{"new B / is F / print / give", "fine 8: 2 1"},
		{"getall F s I / pop / give", "fine 7: 1"},
		{"getall B s I / pop / give", "fine 7: 1"},
		{"push 1 / putall G s I / give", "fine 7: 1"},
		{"static F t ()V / give", "fine 7: 1"},
		{"new A / face F f ()V / give", "thrown Err 4"},
	} {
		wantBoth(t, x.ops, beginStart(t, x.ops, src), x.want)
	}
}

// What no object can be of is told ahead of its beginning, and of what is wrong with it.
func TestRunBeginsAbstract(t *testing.T) {
	abstract := "class A Obj 4\nfield s I 1\n" + begins(1)
	wantBoth(t, "an object", beginStart(t, "new A / give", abstract), "fault 4 A 1")
	wantBoth(t, "a field", beginStart(t, "getall A s I / print / give", abstract), "fine 7: 1 0")
	wantBoth(t, "one below", beginStart(t, "new B / pop / give", abstract+"class B A 0\n"), "fine 7: 1")
	wantBoth(t, "one that cannot be linked", beginStart(t, "new A / give", "class A B 4\n"+does("f", "()V", 0)+"class B Obj 0\n"+does("f", "()V", impl.MemFinal)), "fault 4 A 1")
}

// What is called by its name is a method like others.
func TestRunBeginsCalled(t *testing.T) {
	s := beginStart(t, "static A begin ()V / static A begin ()V / give", "class A Obj 0\n"+begins(1))
	wantBoth(t, "called", s, "fine 13: 1 1 1")
	wantStates(t, s, 5, "M.main@0 A.begin@0 ", "M 2 2, A 2 2, ")
}

// A class whose beginning runs can be used by it, and by those that it calls.
func TestRunBeginsWhileItRuns(t *testing.T) {
	run := func(what string, ops string, src string, want string) {
		t.Helper()
		wantBoth(t, what, beginStart(t, ops, src), want)
	}
	run("itself", "new A / pop / give", "class A Obj 0\n"+begins(1, "new A / pop", "push 2 / print"), "fine 11: 1 2")
	run("its fields", "getall A s I / print / give", "class A Obj 0\nfield s I 1\n"+begins(1, "push 5 / putall A s I"), "fine 9: 1 5")
	b := "class B A 0\n" + begins(2)
	run("one below it", "new A / pop / give", "class A Obj 0\n"+begins(1, "new B / pop", "push 3 / print")+b, "fine 15: 1 2 3")
	run("one below it, that was asked for", "new B / pop / give", "class A Obj 0\n"+begins(1, "new B / pop", "push 3 / print")+b, "fine 15: 1 2 3")
	run("each other", "new A / pop / give", "class A Obj 0\n"+begins(1, "new B / pop", "push 3 / print")+"class B Obj 0\n"+begins(2, "new A / pop", "push 4 / print"), "fine 19: 1 2 4 3")
	s := beginStart(t, "new A / pop / give", "class A Obj 0\n"+begins(1, "new B / pop")+b)
	wantStates(t, s, 4, "M.main@0 A.begin@4* B.begin@0* ", "M 2 2, A 2 1, B 2 1, ")
	wantStates(t, s, 7, "M.main@0 A.begin@4* ", "M 2 2, A 2 1, B 2 2, ")
	wantStates(t, s, 10, "M.main@0 ", "M 2 2, A 2 2, B 2 2, ")
}

// What is thrown out of a beginning goes to the op that wanted it; from then on all uses of the class fail.
func TestRunBeginsFail(t *testing.T) {
	a := "class A Obj 0\nfield s I 1\nmethod t ()V 1 0 0\ngive\n" + breaks(1)
	b := "class B A 0\nfield u I 1\n" + begins(2)
	caught := func(op string) string {
		return "f: / " + op + " / push 7 / print / give / e: / pop / push 8 / print / g: / " + op + " / push 7 / print / give / h: / pop / push 9 / print / give / trap f e e - / trap g h h Err / frame e - LObj; / frame h - LErr;"
	}
	for _, x := range []struct {
		op string
		// ahead is the step in which it is wanted.
		ahead int
	}{
		{"new A / pop", 1}, {"getall A s I / pop", 1}, {"push 1 / putall A s I", 2}, {"static A t ()V", 1}, {"new B / pop", 1}, {"getall B s I / pop", 1}, {"getall B u I / pop", 1},
	} {
		ops := x.op + " / give"
		wantBoth(t, ops, beginStart(t, ops, a+b), fmt.Sprint("thrown Err ", 4+x.ahead, ": 1"))
		ops = caught(x.op)
		wantBoth(t, ops, beginStart(t, ops, a+b), fmt.Sprint("fine ", 4+x.ahead+3+x.ahead+4, ": 1 8 9"))
	}
	s := beginStart(t, caught("new B / pop"), a+b)
	wantStates(t, s, 4, "M.main@0 A.begin@5* ", "M 2 2, A 2 1, B 2 0, ")
	wantStates(t, s, 5, "M.main@9 ", "M 2 2, A 2 3, B 2 0, ")
	wantStates(t, s, 9, "M.main@23 ", "M 2 2, A 2 3, B 2 0, ")
	// What was thrown is what is caught, and the first use that fails throws an Err of its own.
	own := "class A Obj 0\nmethod begin ()V 1 1 0\nnew E\nthrow\nclass E Obj 0\n"
	wantBoth(t, "its own", beginStart(t, "new A / give", own), "thrown E 3")
	twice := "f: / new A / give / e: / pop / new A / give / trap f e e E / frame e - LE;"
	wantBoth(t, "its own, then an Err", beginStart(t, twice, own), "thrown Err 5")
	// One that is above what failed goes on.
	run := func(what string, ops string, src string, want string) {
		t.Helper()
		wantBoth(t, what, beginStart(t, ops, src), want)
	}
	above := "class A Obj 0\n" + begins(1) + "class B A 0\n" + breaks(2)
	run("one above", "f: / new B / give / e: / pop / new A / pop / push 3 / print / give / trap f e e - / frame e - LObj;", above, "fine 15: 1 2 3")
	run("one above, then it", "f: / new B / give / e: / pop / new A / pop / new B / give / trap f e e - / frame e - LObj;", above, "thrown Err 13: 1 2")
	// What is caught inside a beginning does not fail it.
	inside := "class A Obj 0\nmethod begin ()V 1 1 0\nf:\nnull\nthrow\ne:\npop\ngive\ntrap f e e -\nframe e . LObj;\n"
	run("caught inside", "new A / pop / push 3 / print / give", inside, "fine 10: 3")
	// A beginning that is left by another one's failure fails, too.
	chain := "class A Obj 0\nmethod begin ()V 1 1 0\nnew B\npop\ngive\nclass B Obj 0\n" + breaks(1)
	s = beginStart(t, "f: / new A / give / e: / pop / give / trap f e e - / frame e - LObj;", chain)
	wantBoth(t, "a chain", s, "fine 8: 1")
	wantStates(t, s, 6, "M.main@4 ", "M 2 2, A 2 3, B 2 3, ")
	// A trap in the first beginning catches what the second one throws.
	chain = "class A Obj 0\nmethod begin ()V 1 1 0\nf:\nnew B\ne:\npop\ngive\ntrap f e e -\nframe e . LObj;\nclass B Obj 0\n" + breaks(1)
	s = beginStart(t, "new A / pop / give", chain)
	wantBoth(t, "a chain with a trap", s, "fine 11: 1")
	wantStates(t, s, 11, "", "M 2 2, A 2 2, B 2 3, ")
}

// A class that was begun while what is above it ran fails, if that fails later.
func TestRunBeginsFailAbove(t *testing.T) {
	src := "class A Obj 0\nmethod begin ()V 1 1 0\nnew B\npop\nnull\nthrow\nclass B A 0\n" + begins(2)
	s := beginStart(t, "f: / new A / give / e: / pop / new B / give / trap f e e - / frame e - LObj;", src)
	wantBoth(t, "above", s, "thrown Err 11: 2")
	wantStates(t, s, 9, "M.main@4 ", "M 2 2, A 2 3, B 2 2, ")
}

// The class that is run begins ahead of the first op, behind what is above it, without a step of its own.
func TestRunBeginsFirst(t *testing.T) {
	m := func(super string, own string) string {
		return "class M " + super + " 0\nmethod main ()V 1 1 0\npush 9\nprint\ngive\n" + own
	}
	start := func(src string) impl.Start {
		s := startOf(loaderOf(t, -1, src))
		s.Prove = true
		return s
	}
	a := "class A Obj 0\n"
	wantBoth(t, "its own", start(m("Obj", begins(2))), "fine 6: 2 9")
	wantBoth(t, "one above", start(m("A", "")+a+begins(1)), "fine 6: 1 9")
	wantBoth(t, "none above", start(m("A", begins(2))+a), "fine 6: 2 9")
	both := start(m("A", begins(2)) + a + begins(1))
	wantBoth(t, "both", both, "fine 9: 1 2 9")
	wantStates(t, both, 0, "M.main@0 A.begin@0* ", "A 2 1, M 2 0, ")
	wantStates(t, both, 2, "M.main@0 A.begin@4* ", "A 2 1, M 2 0, ")
	wantStates(t, both, 3, "M.main@0 M.begin@0* ", "A 2 2, M 2 1, ")
	wantStates(t, both, 6, "M.main@0 ", "A 2 2, M 2 2, ")
	three := start(m("B", begins(3)) + "class B A 0\n" + begins(2) + a + begins(1))
	wantBoth(t, "three", three, "fine 12: 1 2 3 9")
	wantBoth(t, "a face", start("class M Obj 5\nmethod main ()V 1 0 0\ngive\n"+begins(1)), "fine 4: 1")
	// Once.
	wantBoth(t, "used by main", start("class M A 0\nmethod main ()V 1 1 0\nnew M\npop\ngive\n"+begins(2)+a+begins(1)), "fine 9: 1 2")
	wantBoth(t, "used above", start(m("A", begins(2))+a+begins(1, "new M / pop")), "fine 12: 1 2 9")
	// It fails.
	wantBoth(t, "it throws", start(m("Obj", breaks(2))), "thrown Err 4: 2")
	wantBoth(t, "one above throws", start(m("A", begins(2))+a+breaks(1)), "thrown Err 4: 1")
	trap := "class M A 0\nmethod main ()V 1 1 0\npush 9\nprint\ngive\ne:\npop\npush 8\nprint\nstatic M s ()V\ngive\ntrap 0 3 e -\nframe e . LObj;\nmethod s ()V 1 0 0\ngive\n"
	wantBoth(t, "main catches it", start(trap+breaks(2)+a), "thrown Err 8: 2 8")
	wantBoth(t, "main catches what one above throws", start(trap+begins(2)+a+breaks(1)), "thrown Err 8: 1 8")
	far := "class M A 0\nmethod main ()V 1 1 0\npush 9\nprint\ngive\ne:\npop\ngive\ntrap 3 e e -\nframe e . LObj;\n"
	wantBoth(t, "no trap at its first op", start(far+breaks(2)+a), "thrown Err 4: 2")
	// One above lets it fail, and goes on: it fails ahead of main.
	above := a + "method begin ()V 1 1 0\nf:\nstatic M s ()V\ngive\ne:\npop\ngive\ntrap f e e -\nframe e . LObj;\n"
	wantBoth(t, "it failed while one above ran", start(m("A", breaks(2)+"method s ()V 1 0 0\ngive\n")+above), "thrown Err 7: 2")
	caught := start(trap + breaks(2) + above)
	wantBoth(t, "main catches that", caught, "thrown Err 11: 2 8")
	// What main uses behind that begins, and comes back to the op that wanted it.
	other := strings.Replace(trap, "static M s ()V\n", "new Z\npop\npush 7\nprint\n", 1) + breaks(2) + a + "class Z Obj 0\n" + begins(6)
	wantBoth(t, "main goes on without it", start(other), "fine 16: 2 8 6 7")
}
