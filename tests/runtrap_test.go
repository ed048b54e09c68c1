package tests

import (
	"fmt"
	"testing"

	"loop.example/stowage/impl"
)

// What is thrown is caught by its class, by one above, by a face, or by any, and by no other.
func TestRunTraps(t *testing.T) {
	src := "class A Obj 0\nclass B A 0\nface F\nclass F Obj 5\nclass E Err 0\n"
	ends := map[string]string{"null": "Err", "new A": "A", "new B": "B", "new E": "E", "new Err": "Err", "new Obj": "Obj"}
	catches := map[string][]string{"null": {"Err", "Obj", "-"}, "new A": {"A", "Obj", "-"}, "new B": {"B", "A", "F", "Obj", "-"}, "new E": {"E", "Err", "Obj", "-"}, "new Err": {"Err", "Obj", "-"}, "new Obj": {"Obj", "-"}}
	for thrown, by := range catches {
		for _, class := range []string{"A", "B", "F", "E", "Err", "Obj", "-"} {
			kind := "L" + class + ";"
			if class == "-" {
				kind = "LObj;"
			}
			ops := thrown + " / f: / throw / e: / pop / push 5 / print / give / trap f e e " + class + " / frame e - " + kind
			want := "thrown " + ends[thrown] + " 2"
			for _, name := range by {
				if name == class {
					want = "fine 6: 5"
				}
			}
			s := startOf(loaderOf(t, -1, mainOf(1, 1, lines(ops))+src))
			wantBoth(t, thrown+" by "+class, s, want)
		}
	}
}

// A trap covers what is from From on, and ahead of To.
func TestRunTrapPlaces(t *testing.T) {
	// Ops at 0, 3, 6, 7, 8, 9, 10, 13 and 14; it fails at 6.
	ops := "push 1\npush 0\ndiv\nprint\ngive\npop\npush 5\nprint\ngive\nframe 9 . LObj;\n"
	for _, from := range []int{0, 3, 6, 7, 8} {
		for _, to := range []int{3, 6, 7, 8, 9, 15} {
			if from >= to {
				continue
			}
			want := "thrown Err 3"
			if from <= 6 && to > 6 {
				want = "fine 7: 5"
			}
			src := mainOf(2, 0, ops+fmt.Sprint("trap ", from, " ", to, " 9 -"))
			s := startOf(loaderOf(t, -1, src))
			wantRun(t, fmt.Sprint(from, " to ", to), s, want)
		}
	}
	// The first that fits is taken.
	src := "class A Obj 0\nclass B A 0\n"
	both := func(first string, second string) impl.Start {
		ops := "new B / f: / throw / e: / pop / push 5 / print / give / g: / pop / push 6 / print / give / trap f e e " + first + " / trap f e g " + second + " / frame e - LObj; / frame g - LObj;"
		return startOf(loaderOf(t, -1, mainOf(1, 1, lines(ops))+src))
	}
	wantBoth(t, "both fit", both("A", "B"), "fine 6: 5")
	wantBoth(t, "both fit", both("-", "B"), "fine 6: 5")
	wantBoth(t, "the second fits", both("Err", "B"), "fine 6: 6")
	wantBoth(t, "none fits", both("Err", "Err"), "thrown B 2")
	// A trap may cover the op where it goes on.
	loop := startOf(loaderOf(t, -1, mainOf(1, 1, "f:\nnull\ng:\nthrow\ne:\nthrow\ntrap f end e Err\nframe e - LErr;\n")))
	loop.Fuel = 9
	wantBoth(t, "a trap that covers its own place", loop, "fuel 9")
}

// Of all that stood on the stack the thrown object is left alone; locals stay.
func TestRunTrapStack(t *testing.T) {
	ops := "push 4 / store 0 / push 1 / push 2 / push 3 / f: / new A / throw / e: / pop / load 0 / print / give / trap f e e A / frame e I LA;"
	s := startOf(loaderOf(t, -1, mainOf(5, 1, lines(ops))+"class A Obj 0\n"))
	wantBoth(t, "stack", s, "fine 11: 4")
	s.Prove = true
	r := impl.RunTo(s, 7)
	want := impl.Act{Class: 2, Pc: 18, Locals: []impl.Val{{Tag: impl.TagInt, Num: 4}}, Stack: []impl.Val{{Tag: impl.TagRef, Num: 1}}, Begins: -1}
	if len(r.Acts) != 1 || !same(r.Acts[0], want) || !same(r.Heap, []impl.Obj{{Class: 3}}) {
		t.Error(r.Acts, r.Heap)
	}
	// Without a proof it is put where no value has a place: that is what a trap says, and what is put behind it has none.
	for _, c := range []runCase{{"pop / give", "fine 5"}, {"nop / pop / give", "fine 6"}, {"push 1 / give", "confused 4"}, {"dup / give", "confused 4"}, {"throw", "thrown Err 4"}} {
		src := mainOf(0, 0, "f:\nstatic M s ()V\ngive\ne:\n"+lines(c.ops)+"\ntrap f e e -\n") + "method s ()V 1 1 0\nnull\nthrow\n"
		wantRefused(t, "no place", startOf(loaderOf(t, -1, src)), c.want)
	}
}

// What is not caught goes to the one who called, at the op of the call.
func TestRunTrapCalls(t *testing.T) {
	callee := func(trap string) string {
		return "class A Obj 0\nmethod s ()V 1 1 0\nf:\nstatic A t ()V\ng:\ngive\ne:\npop\npush 6\nprint\ngive\n" + trap + "frame e . LObj;\nmethod t ()V 1 1 0\nnew A\nthrow\n"
	}
	caller := func(trap string) string {
		return mainOf(1, 0, "f:\npush 1\npop\ng:\nstatic A s ()V\nh:\ngive\ne:\npop\npush 5\nprint\ngive\n"+trap+"frame e . LObj;")
	}
	run := func(what string, in string, out string, want string) {
		t.Helper()
		wantBoth(t, what, startOf(loaderOf(t, -1, caller(out)+callee(in))), want)
	}
	run("nobody", "", "", "thrown A 6")
	run("the middle one", "trap f g e A\n", "trap f h e A\n", "fine 11: 6")
	run("the first one", "", "trap g h e A\n", "fine 10: 5")
	run("the first one, as the middle one has another class", "trap f g e Err\n", "trap g h e A\n", "fine 10: 5")
	run("the first one, as the middle one has another place", "trap g e e A\n", "trap g h e A\n", "fine 10: 5")
	run("ahead of the call", "", "trap f g e A\n", "thrown A 6")
	run("behind the call", "", "trap h e e A\n", "thrown A 6")
	s := startOf(loaderOf(t, -1, caller("trap g h e A\n")+callee("")))
	wantStates(t, s, 5, "M.main@4 A.s@0 A.t@3 ", "M 2 2, A 2 2, ")
	wantStates(t, s, 6, "M.main@8 ", "M 2 2, A 2 2, ")
}

// The class of a trap is brought by the loader of the class whose method it is.
func TestRunTrapBrings(t *testing.T) {
	ops := func(class string) string {
		return mainOf(1, 0, "f:\nstatic U t ()V\ngive\ne:\npop\npush 5\nprint\ngive\ntrap f e e "+class+"\nframe e . LObj;")
	}
	thrower := "class U Obj 0\nmethod t ()V 1 1 0\nnew X\nthrow\nclass X Y 0\nclass Y Obj 0\n"
	run := func(what string, src string, want string, ways ...impl.Way) {
		t.Helper()
		wantRun(t, what, startOf(loaderOf(t, -1, thrower), loaderOf(t, 0, src, ways...)), want)
	}
	// With a proof what is wanted is Obj alone, so it does not bring the trap's class: the run does.
	both := func(what string, src string, want string, ways ...impl.Way) {
		t.Helper()
		wantBoth(t, what, startOf(loaderOf(t, -1, thrower), loaderOf(t, 0, src, ways...)), want)
	}
	both("by the parent", ops("X"), "fine 7: 5")
	both("one above, by the parent", ops("Y"), "fine 7: 5")
	both("another one of that name", ops("X")+"class X Obj 0\n", "thrown X 3")
	both("another one of that name, above", ops("Y")+"class Y Obj 0\n", "thrown X 3")
	both("a way", ops("X")+"class X Obj 0\n", "fine 7: 5", impl.Way{Name: "X", To: 0})
	both("nobody has it", ops("Q"), "fault 1 Q 3")
	both("what it is below is not there", ops("Z")+"class Z Q 0\n", "fault 1 Q 3")
	both("two of that name that would be bound", ops("W")+"class W Obj 0\n", "thrown X 3")
	both("by itself", ops("W")+"class W X 0\n", "thrown X 3")
	run("any", ops("-"), "fine 7: 5")
	// A trap that does not cover it, or comes behind one that catches, is not brought.
	src := mainOf(1, 0, "f:\nnull\ng:\nthrow\ne:\npop\npush 5\nprint\ngive\ntrap f g e Q\ntrap g e e -\ntrap g e e Z\nframe e . LObj;")
	both("not asked", src, "fine 6: 5")
	src = mainOf(1, 0, "f:\nnull\ng:\nthrow\ne:\npop\npush 5\nprint\ngive\ntrap g e e Q\ntrap g e e -\nframe e . LObj;")
	both("asked first", src, "fault 1 Q 2")
	// What was brought ahead of the fault is gone with it.
	s := startOf(loaderOf(t, -1, "class A Obj 0\n"), loaderOf(t, 0, mainOf(1, 0, "f:\nnull\ng:\nthrow\ne:\npop\ngive\ntrap g e e A\ntrap g e e Q\nframe e . LObj;")))
	wantBoth(t, "what was brought", s, "fault 1 Q 2")
	if r := impl.RunTo(s, 2); names(r.World) != "1:M" || len(r.Heap) != 0 || len(r.Acts[0].Stack) != 1 {
		t.Error(names(r.World), r.Heap, r.Acts)
	}
}

// Behind what is thrown out of all methods the world and the objects are left.
func TestRunThrownOut(t *testing.T) {
	src := mainOf(1, 0, "push 3\nputall A s I\nstatic A t ()V\ngive") + "class A Obj 0\nfield s I 1\nmethod t ()V 1 1 0\nnew E\npop\nnew E\nthrow\nclass E Err 0\nfield n I 0\n"
	s := startOf(loaderOf(t, -1, src))
	wantBoth(t, "thrown", s, "thrown E 7")
	r := impl.RunTo(s, 7)
	number := impl.Val{Tag: impl.TagInt}
	if r.End != impl.EndThrown || r.Name != "E" || r.Fault != (impl.Fault{}) || len(r.Acts) != 0 || !same(r.Heap, []impl.Obj{{Class: 4, Fields: []impl.Val{number}}, {Class: 4, Fields: []impl.Val{number}}}) || names(r.World) != "0:M 0:A 0:E" || r.World.Classes[3].Statics[0].Num != 3 {
		t.Error(r)
	}
}
