package tests

import (
	"fmt"
	"math"
	"slices"
	"strconv"
	"strings"
	"testing"

	"loop.example/stowage/impl"
)

// byLines is a loader of classes that AsmGet reads from lines, one behind the other.
func byLines(t *testing.T, parent int, src string, ways ...impl.Way) impl.Loader {
	t.Helper()
	l := impl.Loader{Parent: parent, Ways: ways}
	for _, part := range strings.Split("\n"+strings.TrimSuffix(src, "\n"), "\nclass ")[1:] {
		c, ok := impl.AsmGet("class " + part + "\n")
		if !ok {
			t.Fatalf("not read:\nclass %s", part)
		}
		l.Files = append(l.Files, impl.File{Name: strings.Fields(part)[0], Text: impl.FilePut(c)})
	}
	return l
}

// ops are the lines of ops that are told with ` / ` between.
func ops(list string) string {
	return "  " + strings.ReplaceAll(list, " / ", "\n  ") + "\n"
}

// mainBy is M, with ops as its main and lines behind that.
func mainBy(deep int, locals int, list string, more ...string) string {
	return fmt.Sprint("class M Obj 0\nmethod main ()V 1 ", deep, " ", locals, "\n", ops(list), strings.Join(more, ""))
}

// gives is a method that gives a number back.
func gives(name string, flags int, n int) string {
	return fmt.Sprint("method ", name, " ()I ", flags, " 1 ", 1-flags%2, "\n", ops(fmt.Sprint("push ", n, " / giveint")))
}

// startBy is a start of M of one loader.
func startBy(t *testing.T, src string) impl.Start {
	t.Helper()
	return startOf(byLines(t, -1, src))
}

// toldOut are numbers as an answer tells them.
func toldOut(list ...int) string {
	return strings.Trim(fmt.Sprint(list), "[]")
}

// Promise 37.
func TestPromiseNumbers(t *testing.T) {
	edges := []int{-32768, -32767, -257, -256, -128, -3, -2, -1, 0, 1, 2, 3, 127, 181, 255, 256, 32766, 32767}
	d := newDice(37)
	for range 60 {
		edges = append(edges, d.below(65536)-32768)
	}
	each := func(op string, a int, b int) string {
		return fmt.Sprint("push ", a, " / push ", b, " / ", op, " / print / ")
	}
	for i, a := range edges {
		for k, b := range edges {
			if i >= 18 && k >= 18 && i != k {
				continue
			}
			s := startBy(t, mainBy(2, 0, each("add", a, b)+each("sub", a, b)+each("mul", a, b)+each("div", a, b)+"give"))
			want := "thrown Err 15: " + toldOut(a+b, a-b, a*b)
			if b != 0 {
				want = "fine 17: " + toldOut(a+b, a-b, a*b, a/b)
			}
			for _, s.Prove = range []bool{true, false} {
				if got := tellAnswer(impl.RunAll(s)); got != want {
					t.Fatalf("%d and %d: %s, wanted %s", a, b, got, want)
				}
			}
		}
	}
	// Behind 32 bits it goes on from the other end.
	for seed := range 300 {
		d, n := newDice(seed), int32(1)
		list, steps := "push 1", 1
		for range 8 {
			b := int32(edges[d.below(len(edges))])
			switch op := d.below(5); {
			case op == 0:
				list, n = fmt.Sprint(list, " / push ", b, " / add"), n+b
			case op == 1:
				list, n = fmt.Sprint(list, " / push ", b, " / sub"), n-b
			case op == 2 && b != 0:
				list, n = fmt.Sprint(list, " / push ", b, " / div"), quotient(n, b)
			default:
				list, n = fmt.Sprint(list, " / push ", b, " / mul"), n*b
			}
			steps += 2
		}
		wantBoth(t, list, startBy(t, mainBy(2, 0, list+" / print / give")), fmt.Sprint("fine ", steps+2, ": ", n))
	}
	least := "push -32768 / push -32768 / mul / push 2 / mul"
	for list, want := range map[string]string{
		least:                         "fine 7: -2147483648",
		least + " / push -1 / div":    "fine 9: -2147483648",
		least + " / push -1 / mul":    "fine 9: -2147483648",
		least + " / push 1 / sub":     "fine 9: 2147483647",
		least + " / push -1 / add":    "fine 9: 2147483647",
		least + " / push 0 / div":     "thrown Err 7",
		"push 0 / push 0 / div":       "thrown Err 3",
		"push -7 / push 2 / div":      "fine 5: -3",
		"push 7 / push -2 / div":      "fine 5: -3",
		"push 32767 / push 1 / add":   "fine 5: 32768",
		"push -32768 / push -1 / div": "fine 5: 32768",
		"push -32768 / push 1 / sub":  "fine 5: -32769",
	} {
		wantBoth(t, list, startBy(t, mainBy(2, 0, list+" / print / give")), want)
	}
}

// quotient is towards 0, in 32 bits.
func quotient(a int32, b int32) int32 {
	if a == math.MinInt32 && b == -1 {
		return a
	}
	return a / b
}

// loopBy is a loop that counts down from n, with these frames.
func loopBy(n int, frames string) string {
	return mainBy(2, 1, fmt.Sprint("push ", n, " / store 0 / load 0 / ifzero 24 / load 0 / print / load 0 / push 1 / sub / store 0 / go 5 / give"), frames)
}

// Promise 38.
func TestPromiseLoop(t *testing.T) {
	const frames = "frame 5 I .\nframe 24 I .\n"
	for n := range 33 {
		want := fmt.Sprint("fine ", 9*n+5)
		if n > 0 {
			want += ":"
		}
		for k := n; k > 0; k-- {
			want += fmt.Sprint(" ", k)
		}
		s := startBy(t, loopBy(n, frames))
		for _, s.Prove = range []bool{true, false} {
			if got := tellAnswer(impl.RunAll(s)); got != want {
				t.Errorf("%s, wanted %s", got, want)
			}
		}
		s.Prove = false
		for _, other := range []string{"", "frame 5 - .\n"} {
			s.Loaders[0] = byLines(t, -1, loopBy(n, other))
			if got := tellAnswer(impl.RunAll(s)); got != want {
				t.Errorf("frames %q: %s, wanted %s", other, got, want)
			}
		}
	}
	wantBoth(t, "some steps", startBy(t, loopBy(3, frames)), "fine 32: 3 2 1")
	wantBoth(t, "behind it the place does not matter", startBy(t, loopBy(3, "frame 5 I .\nframe 24 - .\n")), "fine 32: 3 2 1")
	for _, n := range []int{33, -1} {
		s := startBy(t, loopBy(n, frames))
		if a := impl.RunAll(s); a.End != impl.EndFuel || a.Steps != impl.FuelMax || len(a.Out) != 33 || a.Out[32] != n-32 {
			t.Error(tellAnswer(a))
		}
	}
	for _, other := range []string{"", "frame 5 I .\n", "frame 24 I .\n", "frame 5 - .\nframe 24 I .\n", "frame 5 - .\nframe 24 - .\n", "frame 5 N .\nframe 24 - .\n", "frame 5 LM; .\nframe 24 - .\n", "frame 5 I I\nframe 24 - .\n", "frame 5 I .\nframe 24 I I\n", "frame 5 I .\nframe 24 N .\n", "frame 0 - .\nframe 24 I .\n"} {
		wantRefused(t, other, startBy(t, loopBy(2, other)), "fine 23: 2 1")
	}
}

// Promise 39.
func TestPromiseFields(t *testing.T) {
	const src = "class A Obj 0\nfield n I 0\nfield m I 0\nfield r LA; 0\nclass B A 0\nfield n I 0\n"
	two := "new A / refstore 0 / new A / refstore 1 / "
	for _, c := range []runCase{
		{two + "refload 0 / get A n I / print / refload 1 / get A n I / print / give", "fine 11: 0 0"},
		{two + "refload 0 / push 5 / put A n I / refload 1 / push -6 / put A n I / refload 0 / get A n I / print / refload 1 / get A n I / print / give", "fine 17: 5 -6"},
		{two + "refload 0 / push 5 / put A n I / refload 1 / get A n I / print / refload 0 / get A m I / print / refload 0 / get A n I / print / give", "fine 17: 0 0 5"},
		{two + "refload 0 / push 5 / put A n I / refload 0 / push 7 / put A n I / refload 0 / get A n I / print / give", "fine 14: 7"},
		{two + "refload 0 / push 5 / put A n I / new A / get A n I / print / give", "fine 11: 0"},
		{two + "refload 0 / refload 1 / put A r LA; / refload 1 / push 9 / put A n I / refload 0 / get A r LA; / get A n I / print / refload 1 / get A r LA; / is A / print / give", "fine 19: 9 0"},
		{"new B / refstore 0 / refload 0 / push 1 / put A n I / refload 0 / push 2 / put B n I / refload 0 / get A n I / print / refload 0 / get B n I / print / refload 0 / get B m I / print / give", "fine 18: 1 2 0"},
		{"null / get A n I / print / give", "thrown Err 2"},
		{"null / push 1 / put A n I / give", "thrown Err 3"},
		{"new A / get A z I / print / give", "fault 7 A 2"},
		{"new A / getall A n I / print / give", "fault 10 A 2"},
	} {
		wantBoth(t, c.ops, startBy(t, mainBy(3, 2, c.ops)+src), c.want)
	}
	wantRefused(t, "an object for a number", startBy(t, mainBy(3, 2, "new A / new A / put A n I / give")+src), "confused 3")
	wantRefused(t, "a number for an object", startBy(t, mainBy(3, 2, "new A / push 1 / put A r LA; / give")+src), "confused 3")
}

// Promise 40.
func TestPromiseVirtual(t *testing.T) {
	src := "class A Obj 0\n" + gives("f", 0, 1) + gives("g", 0, 2) + "class B A 0\n" + gives("f", 0, 3) + "class C B 0\nclass D C 0\n" + gives("g", 0, 4) + gives("h", 0, 5)
	for _, c := range []struct{ class, by, f, g string }{
		{"A", "A", "1", "2"}, {"B", "A", "3", "2"}, {"C", "A", "3", "2"}, {"D", "A", "3", "4"}, {"B", "B", "3", "2"}, {"C", "B", "3", "2"}, {"D", "B", "3", "4"}, {"D", "D", "3", "4"}, {"C", "C", "3", "2"},
	} {
		list := "new " + c.class + " / dup / virtual " + c.by + " f ()I / print / virtual " + c.by + " g ()I / print / give"
		wantBoth(t, list, startBy(t, mainBy(2, 0, list)+src), "fine 11: "+c.f+" "+c.g)
	}
	for _, c := range []runCase{
		{"new D / virtual D h ()I / print / give", "fine 6: 5"},
		{"new D / virtual A h ()I / print / give", "fault 8 A 2"},
		{"new A / virtual A f ()V / give", "fault 8 A 2"},
		{"null / virtual A f ()I / print / give", "thrown Err 2"},
	} {
		wantBoth(t, c.ops, startBy(t, mainBy(2, 0, c.ops)+src), c.want)
	}
	wantRefused(t, "an A for a B", startBy(t, mainBy(2, 0, "new A / virtual B f ()I / print / give")+src), "confused 2")
	// With MemFinal above nobody stands in its place.
	for _, flags := range []int{impl.MemFinal, impl.MemFinal | impl.MemPrivate, 0} {
		for _, own := range []string{gives("f", 0, 3), gives("f", impl.MemPrivate, 3), gives("f", impl.MemStatic, 3), gives("g", 0, 3), ""} {
			src := "class A Obj 0\n" + gives("f", flags, 1) + "class B A 0\n" + own
			s := startBy(t, mainBy(2, 0, "push 8 / print / new B / pop / give")+src)
			if flags == impl.MemFinal && own == gives("f", 0, 3) {
				wantBoth(t, own, s, "fault 11 B 3: 8")
			} else {
				wantBoth(t, own, s, "fine 5: 8")
			}
		}
	}
	final := "class A Obj 0\n" + gives("f", impl.MemFinal, 1) + "class C A 0\nclass B C 0\n" + gives("f", 0, 3)
	wantBoth(t, "final above one that has it not", startBy(t, mainBy(2, 0, "new C / virtual C f ()I / print / new B / pop / give")+final), "fault 11 B 6: 1")
}

// Promise 41.
func TestPromiseFaces(t *testing.T) {
	const asked = "method f ()I 8\n"
	src := "class F Obj 5\n" + asked + "class A Obj 0\nface F\n" + gives("f", 0, 1) + "class B A 0\n" + gives("f", 0, 2) + "class C Obj 0\n" + gives("f", 0, 3)
	for _, c := range []runCase{
		{"new A / face F f ()I / print / give", "fine 6: 1"},
		{"new B / face F f ()I / print / give", "fine 6: 2"},
		{"push 8 / print / new C / face F f ()I / print / give", "fault 4 C 4: 8"},
		{"new Obj / face F f ()I / print / give", "fault 4 Obj 2"},
		{"null / face F f ()I / print / give", "thrown Err 2"},
		{"new A / face A f ()I / print / give", "fault 4 A 2"},
		{"new A / face F g ()I / print / give", "fault 8 F 2"},
		{"new A / virtual F f ()I / print / give", "fault 4 F 2"},
		{"new F / pop / give", "fault 4 F 1"},
	} {
		wantBoth(t, c.ops, startBy(t, mainBy(2, 0, c.ops)+src), c.want)
	}
	// A class that has the face, but not the method, or not as the face asks for it.
	for _, own := range []string{"", gives("g", 0, 1), gives("f", impl.MemStatic, 1), gives("f", impl.MemPrivate, 1), "method f ()V 0 0 1\n" + ops("give"), "method f (I)I 0 1 2\n" + ops("load 1 / giveint")} {
		src := "class F Obj 5\n" + asked + "class A Obj 0\nface F\n" + own
		wantBoth(t, own, startBy(t, mainBy(2, 0, "push 8 / print / new A / face F f ()I / print / give")+src), "fault 8 M 4: 8")
	}
	abstract := "class F Obj 5\n" + asked + "class A Obj 4\nface F\n" + asked + "class B A 0\n"
	wantBoth(t, "abstract above", startBy(t, mainBy(2, 0, "new B / face F f ()I / print / give")+abstract), "fault 8 M 2")
	// By a face of a face, and by one that is above.
	faces := "class F Obj 5\n" + asked + "class G Obj 5\nface F\nclass A Obj 0\nface G\nclass B A 0\n" + gives("f", 0, 4)
	wantBoth(t, "a face's face", startBy(t, mainBy(2, 0, "new B / dup / face F f ()I / print / face G f ()I / print / give")+faces), "fine 11: 4 4")
	wantBoth(t, "a face's face, without", startBy(t, mainBy(2, 0, "new A / face G f ()I / print / give")+faces), "fault 8 M 2")
}

// Promise 42.
func TestPromiseTraps(t *testing.T) {
	const src = "class E Err 0\nclass G E 0\nclass Q Obj 0\n"
	rest := "method s ()V 1 1 0\n" + ops("new E / throw") + "method v ()V 0 1 1\n" + ops("static M s ()V / give")
	for _, c := range []struct{ ops, thrown, caughtBy string }{
		{"new Err / throw", "Err", "Err Obj -"},
		{"push 1 / push 0 / div / pop", "Err", "Err Obj -"},
		{"null / throw", "Err", "Err Obj -"},
		{"null / virtual M v ()V", "Err", "Err Obj -"},
		{"new Q / cast E / pop", "Err", "Err Obj -"},
		{"new E / throw", "E", "E Err Obj -"},
		{"new G / throw", "G", "G E Err Obj -"},
		{"new Q / throw", "Q", "Q Obj -"},
		{"new Obj / throw", "Obj", "Obj -"},
		{"static M s ()V", "E", "E Err Obj -"},
		{"new M / virtual M v ()V", "E", "E Err Obj -"},
	} {
		for _, of := range []string{"Err", "Obj", "-", "E", "G", "Q", "M"} {
			// It goes on behind what throws, or, caught, behind the op there.
			behind := len(codeOfLines(ops("push 7 / print / " + c.ops)))
			kind := strings.Replace(of, "-", "Obj", 1)
			traps := fmt.Sprint("trap 0 ", behind, " ", behind+1, " ", of, "\nframe ", behind, " . .\nframe ", behind+1, " . L", kind, ";\n")
			s := startBy(t, mainBy(2, 0, "push 7 / print / "+c.ops+" / give / pop / push 9 / print / give", traps)+rest+src)
			end, name, out := impl.EndThrown, c.thrown, []int{7}
			if slices.Contains(strings.Fields(c.caughtBy), of) {
				end, name, out = impl.EndFine, "", []int{7, 9}
			}
			for _, s.Prove = range []bool{true, false} {
				if a := impl.RunAll(s); a.End != end || a.Name != name || !same(a.Out, out) {
					t.Errorf("%s, a trap of %s: %s", c.ops, of, tellAnswer(a))
				}
				checkSteps(t, c.ops, s)
			}
		}
	}
}

// codeOfLines are the bytes of ops.
func codeOfLines(list string) string {
	return classOf("class M Obj 0\nmethod f ()V 1 0 0\n" + list).Methods[0].Code
}

// Promise 43.
func TestPromiseCasts(t *testing.T) {
	const src = "class F Obj 5\nclass A Obj 0\nclass B A 0\nface F\nclass C B 0\n"
	above := map[string]string{"Obj": "Obj", "Err": "Err Obj", "A": "A Obj", "B": "B A F Obj", "C": "C B A F Obj", "M": "M Obj"}
	for class, all := range above {
		for _, of := range []string{"Obj", "Err", "A", "B", "C", "F", "M"} {
			is, cast := "fine 4: 0", "thrown Err 2"
			if slices.Contains(strings.Fields(all), of) {
				is, cast = "fine 4: 1", "fine 4"
			}
			wantBoth(t, class+" is "+of, startBy(t, mainBy(1, 1, "new "+class+" / is "+of+" / print / give")+src), is)
			wantBoth(t, class+" as "+of, startBy(t, mainBy(1, 1, "new "+class+" / cast "+of+" / refstore 0 / give")+src), cast)
		}
	}
	for _, of := range []string{"Obj", "Err", "A", "F"} {
		wantBoth(t, "none is "+of, startBy(t, mainBy(1, 1, "null / is "+of+" / print / give")+src), "fine 4: 0")
		wantBoth(t, "none as "+of, startBy(t, mainBy(1, 1, "null / cast "+of+" / is Obj / print / give")+src), "fine 5: 0")
	}
	// What was cast is that object still.
	wantBoth(t, "one object", startBy(t, mainBy(3, 0, "new C / dup / cast A / ifsame 15 / push 1 / print / give / push 2 / print / give", "frame 15 . .\n")+src), "fine 7: 2")
	wantBoth(t, "none such", startBy(t, mainBy(1, 0, "null / is Z / print / give")+src), "fault 1 Z 2")
	wantBoth(t, "none such", startBy(t, mainBy(1, 0, "null / cast Z / pop / give")+src), "fault 1 Z 2")
	wantRefused(t, "a number", startBy(t, mainBy(1, 0, "push 1 / is A / print / give")+src), "confused 2")
	wantRefused(t, "a number", startBy(t, mainBy(1, 0, "push 1 / cast A / pop / give")+src), "confused 2")
}

// beginsBy is a beginning that prints a number.
func beginsBy(n int) string {
	return "method begin ()V 1 1 0\n" + ops(fmt.Sprint("push ", n, " / print / give"))
}

// Promise 44.
func TestPromiseBegins(t *testing.T) {
	src := "class A Obj 0\nfield a I 1\nfield i I 0\n" + beginsBy(1) + "method t ()V 1 0 0\n" + ops("give") + "class B A 0\nfield b I 1\n" + beginsBy(2) + "method s ()V 1 0 0\n" + ops("give") + "class C B 0\nclass F Obj 5\nfield f I 1\n" + beginsBy(6)
	for _, c := range []struct{ ops, out string }{
		{"new A / pop", "1"}, {"new B / pop", "1 2"}, {"new C / pop", "1 2"},
		{"static A t ()V", "1"}, {"static B s ()V", "1 2"}, {"static C s ()V", "1 2"},
		// Whose the field or method is begins, not by which class it is told.
		{"static C t ()V", "1"}, {"getall C a I / pop", "1"},
		{"getall A a I / pop", "1"}, {"getall B b I / pop", "1 2"}, {"push 5 / putall B b I", "1 2"}, {"push 5 / putall A a I", "1"}, {"getall F f I / pop", "6"},
		// What is not used does not begin.
		{"null / is B / pop", ""}, {"null / cast C / pop", ""}, {"nop", ""},
	} {
		for _, more := range []struct{ ops, out string }{{"nop", ""}, {c.ops, ""}, {"new C / pop", "1 2"}, {"new A / pop / new B / pop", "1 2"}} {
			var want []string
			for _, n := range strings.Fields("7 " + c.out + " 8 " + more.out + " 9") {
				if !slices.Contains(want, n) {
					want = append(want, n)
				}
			}
			s := startBy(t, mainBy(1, 0, "push 7 / print / "+c.ops+" / push 8 / print / "+more.ops+" / push 9 / print / give")+src)
			for _, s.Prove = range []bool{true, false} {
				if a := impl.RunAll(s); a.End != impl.EndFine || toldOut(a.Out...) != strings.Join(want, " ") {
					t.Errorf("%s, then %s: %s, wanted %v", c.ops, more.ops, tellAnswer(a), want)
				}
				checkSteps(t, c.ops, s)
			}
		}
	}
	// M itself begins ahead of its main, behind what is above it; and it is not begun again by itself.
	own := "class M N 0\nmethod main ()V 1 1 0\n" + ops("push 7 / print / new M / pop / static M s ()V / give") + beginsBy(4) + "method s ()V 1 0 0\n" + ops("give") + "class N Obj 0\n" + beginsBy(3)
	wantBoth(t, "M", startBy(t, own), "fine 13: 3 4 7")
	// A beginning that uses its own class does not wait for itself.
	self := "class A Obj 0\nfield n I 1\nmethod begin ()V 1 1 0\n" + ops("new A / pop / push 5 / putall A n I / give")
	wantBoth(t, "its own", startBy(t, mainBy(1, 0, "getall A n I / print / give")+self), "fine 9: 5")
	// One that failed is not used, and not begun again.
	bad := "class A Obj 0\nmethod begin ()V 1 1 0\n" + ops("push 3 / print / new Q / throw") + "class Q Obj 0\n"
	wantBoth(t, "failed", startBy(t, mainBy(1, 0, "new A / pop / give / is Q / print / new A / pop / give", "trap 0 3 5 -\nframe 5 . LObj;\n")+bad), "thrown Err 8: 3 1")
}

// Promise 45.
func TestPromisePrivate(t *testing.T) {
	src := "class A Obj 0\nfield n I 2\nfield s I 3\n" + gives("p", impl.MemPrivate, 3) + gives("q", impl.MemPrivate|impl.MemStatic, 4) +
		"method own (LA;)I 0 2 2\n" + ops("refload 1 / push 6 / put A n I / refload 1 / get A n I / giveint") +
		"method all ()I 1 2 0\n" + ops("new A / virtual A p ()I / static A q ()I / add / push 1 / putall A s I / getall A s I / add / giveint")
	below := "class B A 0\nmethod get ()I 0 1 1\n" + ops("refload 0 / get A n I / giveint")
	for _, c := range []runCase{
		{"new A / get A n I / print / give", "fault 9 A 2"},
		{"new A / push 1 / put A n I / give", "fault 9 A 3"},
		{"getall A s I / print / give", "fault 9 A 1"},
		{"push 1 / putall A s I / give", "fault 9 A 2"},
		{"new A / virtual A p ()I / print / give", "fault 9 A 2"},
		{"static A q ()I / print / give", "fault 9 A 1"},
		{"new B / get B n I / print / give", "fault 9 A 2"},
		{"new B / virtual B get ()I / print / give", "fault 9 A 4"},
		{"null / get A n I / print / give", "fault 9 A 2"},
		{"new A / new A / virtual A own (LA;)I / print / give", "fine 11: 6"},
		{"new A / new B / virtual A own (LA;)I / print / give", "fine 11: 6"},
		{"static A all ()I / print / give", "fine 16: 8"},
	} {
		wantBoth(t, c.ops, startBy(t, mainBy(2, 0, c.ops)+src+below), c.want)
	}
}

// Promise 46.
func TestPromiseTwoLoaders(t *testing.T) {
	low := "class A Obj 0\nfield n I 0\n" + gives("get", 0, 1) +
		"class U Obj 0\nfield a LA; 1\nfield o LA; 0\nmethod eat (LA;)I 1 1 1\n" + ops("refload 0 / virtual A get ()I / giveint") +
		"method make ()LA; 1 1 0\n" + ops("new A / giveref") + "method get (LA;)I 0 1 2\n" + ops("refload 1 / virtual A get ()I / giveint")
	own := "class A Obj 0\nfield n I 0\n" + gives("get", 0, 2)
	way := impl.Way{Name: "A", To: 0}
	for _, c := range []struct{ ops, one, two string }{
		{"push 7 / print / new A / static U eat (LA;)I / print / give", "fine 11: 7 1", "fault 5 A 6: 7"},
		{"push 7 / print / static U make ()LA; / virtual A get ()I / print / give", "fine 10: 7 1", "fault 5 A 6: 7"},
		{"new A / virtual A get ()I / print / static U make ()LA; / pop / give", "fine 10: 1", "fault 5 A 7: 2"},
		{"new U / new A / virtual U get (LA;)I / print / give", "fine 10: 1", "fault 5 A 5"},
		{"new A / putall U a LA; / getall U a LA; / virtual A get ()I / print / static U make ()LA; / pop / give", "fine 12: 1", "fault 5 A 9: 2"},
		{"new U / dup / new A / put U o LA; / get U o LA; / virtual A get ()I / print / static U make ()LA; / pop / give", "fine 14: 1", "fault 5 A 11: 2"},
	} {
		start := func(src string, ways ...impl.Way) impl.Start {
			return startOf(byLines(t, -1, low), byLines(t, 0, mainBy(3, 0, c.ops)+src, ways...))
		}
		wantBoth(t, c.ops, start(""), c.one)
		wantBoth(t, c.ops+", two", start(own), c.two)
		wantBoth(t, c.ops+", a way", start(own, way), c.one)
		wantBoth(t, c.ops+", a way, not needed", start("", way), c.one)
	}
	// What is not handed over may be two.
	list := "new A / virtual A get ()I / print / static V two ()I / print / give"
	v := "class V Obj 0\nmethod two ()I 1 1 0\n" + ops("new A / virtual A get ()I / giveint")
	wantBoth(t, "two, each its own", startOf(byLines(t, -1, low+v), byLines(t, 0, mainBy(2, 0, list)+own)), "fine 13: 2 1")
}

// Promise 47.
func TestPromiseNotBrought(t *testing.T) {
	list := "push 7 / print / new A / pop / give"
	file := func(name string, text string) impl.File { return impl.File{Name: name, Text: text} }
	textBy := func(src string) string { return byLines(t, -1, src).Files[0].Text }
	good := textBy("class A Obj 0\n")
	for _, c := range []struct {
		name  string
		files []impl.File
		ways  []impl.Way
		want  string
	}{
		{"there it is", []impl.File{file("A", good)}, nil, "fine 5: 7"},
		{"nobody has it", nil, nil, "fault 1 A 3: 7"},
		{"nobody has what is above", []impl.File{file("A", textBy("class A B 0\n"))}, nil, "fault 1 B 3: 7"},
		{"nobody has its face", []impl.File{file("A", textBy("class A Obj 0\nface F\n"))}, nil, "fault 1 F 3: 7"},
		{"no bytes", []impl.File{file("A", "")}, nil, "fault 2 A 3: 7"},
		{"a byte less", []impl.File{file("A", good[:len(good)-1])}, nil, "fault 2 A 3: 7"},
		{"a byte more", []impl.File{file("A", good+"\x00")}, nil, "fault 2 A 3: 7"},
		{"something is wrong with it", []impl.File{file("A", impl.FilePut(classOf("class A A 0\n")))}, nil, "fault 2 A 3: 7"},
		{"another name", []impl.File{file("A", textBy("class B Obj 0\n"))}, nil, "fault 2 A 3: 7"},
		{"what is above has another name", []impl.File{file("A", textBy("class A B 0\n")), file("B", good)}, nil, "fault 2 B 3: 7"},
		{"a circle", []impl.File{file("A", textBy("class A B 0\n")), file("B", textBy("class B A 0\n"))}, nil, "fault 3 A 3: 7"},
		{"a circle of ways", nil, []impl.Way{{Name: "A", To: 0}}, "fault 3 A 3: 7"},
		{"above a face", []impl.File{file("A", textBy("class A B 0\n")), file("B", textBy("class B Obj 5\n"))}, nil, "fault 4 A 3: 7"},
		{"above one that is final", []impl.File{file("A", textBy("class A B 0\n")), file("B", textBy("class B Obj 2\n"))}, nil, "fault 4 A 3: 7"},
		{"no face", []impl.File{file("A", textBy("class A Obj 0\nface B\n")), file("B", textBy("class B Obj 0\n"))}, nil, "fault 4 A 3: 7"},
		{"abstract", []impl.File{file("A", textBy("class A Obj 4\n"))}, nil, "fault 4 A 3: 7"},
	} {
		m := byLines(t, -1, mainBy(1, 0, list))
		m.Files, m.Ways = append(m.Files, c.files...), c.ways
		wantBoth(t, c.name, startOf(m), c.want)
		// By another loader it is the same.
		low := impl.Loader{Files: c.files, Ways: c.ways, Parent: -1}
		wantBoth(t, c.name, startOf(low, byLines(t, 0, mainBy(1, 0, list))), c.want)
	}
	// There are ClassMax classes already: Obj, Err, M, and nine more.
	bare := func(lead string, many int) (string, string) {
		src, uses := "", ""
		for i := range many {
			name := lead + strconv.Itoa(i)
			src += "class " + name + " Obj 0\n"
			uses += "new " + name + " / pop / "
		}
		return src, uses
	}
	zero, first := bare("C", 5)
	one, second := bare("D", 4)
	full := func(last string) impl.Start {
		return startOf(byLines(t, -1, zero), byLines(t, 0, one), byLines(t, 1, mainBy(1, 0, first+second+"push 7 / print / "+last+"give")+"class A Obj 0\n"))
	}
	wantBoth(t, "all that may be", full("new C0 / pop / "), "fine 23: 7")
	wantBoth(t, "one more", full("new A / pop / "), "fault 6 A 21: 7")
}

// Promise 48.
func TestPromiseConfused(t *testing.T) {
	const src = "class A Obj 0\nfield n I 0\nfield r LA; 0\nmethod f (ILA;)I 0 1 3\n  load 1\n  giveint\nmethod g ()LA; 1 1 0\n  push 1\n  giveint\nmethod h ()I 1 1 0\n  give\n"
	for _, c := range []runCase{
		{"push 1 / get A n I / print", "2"}, {"push 1 / push 1 / put A n I", "3"}, {"new A / null / put A n I", "3"}, {"new A / push 0 / put A r LA;", "3"},
		{"push 1 / virtual A f (ILA;)I / print", "2"}, {"new A / push 1 / push 1 / virtual A f (ILA;)I / print", "4"}, {"new A / null / null / virtual A f (ILA;)I / print", "4"}, {"push 1 / push 1 / null / virtual A f (ILA;)I / print", "4"}, {"push 1 / null / virtual A f (ILA;)I / print", "3"},
		{"push 1 / throw", "2"}, {"push 1 / ifnull 0", "2"}, {"null / ifzero 0", "2"}, {"null / ifneg 0", "2"}, {"null / push 1 / ifsame 0", "3"}, {"push 1 / refstore 0", "2"}, {"null / store 0", "2"}, {"load 0 / print", "1"}, {"refload 0 / pop", "1"},
		{"push 1 / store 0 / refload 0 / pop", "3"}, {"null / refstore 0 / load 0 / print", "3"},
		{"null / print", "2"}, {"push 1 / null / add / print", "3"}, {"null / push 1 / div / print", "3"}, {"push 1 / cast A / pop", "2"}, {"push 1 / is A / print", "2"},
		{"pop", "1"}, {"dup / pop", "1"}, {"push 1 / swap", "2"}, {"push 1 / add / print", "2"}, {"print", "1"}, {"throw", "1"}, {"get A n I / print", "1"}, {"push 1 / put A n I", "2"}, {"new A / virtual A f (ILA;)I / print", "2"}, {"store 0", "1"}, {"ifzero 0", "1"}, {"null / ifsame 0", "2"}, {"is A / print", "1"},
		{"push 1 / giveint", "2"}, {"null / giveref", "2"}, {"push 1 / push 1 / push 1 / push 1 / push 1", "5"},
	} {
		s := startBy(t, mainBy(4, 1, "push 7 / print / "+c.ops+" / give")+src[:strings.Index(src, "method g")])
		wantRefused(t, c.ops, s, fmt.Sprint("confused ", number(c.want)+2, ": 7"))
	}
	// In another class it is told when that is first used, ahead of its first op.
	s := startBy(t, mainBy(1, 0, "push 7 / print / static A g ()LA; / pop / give")+src)
	wantRun(t, "another class", s, "confused 5: 7")
	s.Prove = true
	wantRun(t, "another class", s, "fault 12 A 3: 7")
	s = startBy(t, mainBy(1, 0, "push 7 / print / static A h ()I / pop / give")+src)
	wantRun(t, "another class", s, "confused 4: 7")
	s.Prove = true
	wantRun(t, "another class", s, "fault 12 A 3: 7")
}
