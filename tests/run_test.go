package tests

import (
	"fmt"
	"math"
	"slices"
	"strings"
	"testing"

	"loop.example/stowage/impl"
)

// startOf is a start of the class M of the last of some loaders, with all that may be.
func startOf(list ...impl.Loader) impl.Start {
	return impl.Start{Loaders: list, Loader: len(list) - 1, Name: "M", Fuel: impl.FuelMax, Room: impl.RoomMax}
}

var endWords = []string{"not", "fine", "thrown", "fault", "fuel", "room", "deep", "confused"}

// tellAnswer is an answer as `END NAME STEPS: OUT`, of a fault `fault CODE NAME STEPS: OUT`.
func tellAnswer(a impl.Answer) string {
	out := endWords[a.End]
	if a.End == impl.EndFault {
		out += fmt.Sprint(" ", a.Fault.Code)
	}
	if a.Name != "" {
		out += " " + a.Name
	}
	out += fmt.Sprint(" ", a.Steps)
	if len(a.Out) > 0 {
		out += ": " + strings.Trim(fmt.Sprint(a.Out), "[]")
	}
	return out
}

// wantRun wants how a run ends, and all that the document promises of its steps.
func wantRun(t *testing.T, what string, s impl.Start, want string) {
	t.Helper()
	if got := tellAnswer(impl.RunAll(s)); got != want {
		t.Errorf("%s, proved %v: %s, wanted %s", what, s.Prove, got, want)
	}
	checkSteps(t, what, s)
}

// wantBoth wants it of a run that is proved, and of one that is not.
func wantBoth(t *testing.T, what string, s impl.Start, want string) {
	t.Helper()
	for _, s.Prove = range []bool{true, false} {
		wantRun(t, what, s, want)
	}
}

// wantRefused wants of a run that is not proved how it ends, and that a proof of M refuses it.
func wantRefused(t *testing.T, what string, s impl.Start, want string) {
	t.Helper()
	s.Prove = false
	wantRun(t, what, s, want)
	s.Prove = true
	wantRun(t, what, s, "fault 12 M 0")
}

// checkSteps holds a run behind each number of steps against the promises 22 to 26 and 32 to 34.
func checkSteps(t *testing.T, what string, s impl.Start) {
	t.Helper()
	wrong := func(told ...any) { t.Helper(); t.Fatalf("%s, proved %v: %s", what, s.Prove, fmt.Sprint(told...)) }
	a := impl.RunAll(s)
	if a.End < impl.EndFine || a.End > impl.EndConfused || (a.End == impl.EndFault) != (a.Fault.Code != impl.FaultFine) || a.Steps > s.Fuel || s.Prove && a.End == impl.EndConfused {
		wrong(a)
	}
	if a.End == impl.EndFault && a.Name != a.Fault.Name || a.End != impl.EndFault && a.Fault != (impl.Fault{}) {
		wrong(a)
	}
	if named := a.End == impl.EndThrown || a.End == impl.EndRoom || a.End == impl.EndDeep; named && a.Name == "" || !named && a.End != impl.EndFault && a.Name != "" {
		wrong(a)
	}
	var before impl.Run
	for _, steps := range append([]int{math.MinInt, -1}, stepsUpTo(a.Steps+2)...) {
		r := impl.RunTo(s, steps)
		isEnd := r.End != impl.EndNot
		if r.Steps != min(max(steps, 0), a.Steps) || isEnd && r.End != a.End || !isEnd && (steps > a.Steps || r.Name != "" || r.Fault != impl.Fault{}) || isEnd && max(steps, 0) < a.Steps {
			wrong("RunTo ", steps, " is ", r.End, " behind ", r.Steps, ", not ", a)
		}
		checkState(t, fmt.Sprint(what, ", step ", steps), s, r)
		if steps >= 0 && steps > before.Steps {
			checkGoesOn(t, fmt.Sprint(what, ", step ", steps), s, before, r)
		}
		before = r
	}
	if !same(impl.Answer{End: before.End, Name: before.Name, Fault: before.Fault, Out: before.Out, Steps: before.Steps}, a) {
		wrong("RunTo ends by ", before.End, before.Name, before.Fault, before.Out, before.Steps, ", not ", a)
	}
	for _, steps := range []int{impl.FuelMax + 1, math.MaxInt} {
		if r := impl.RunTo(s, steps); !same(r, before) {
			wrong("RunTo ", steps, " is not RunTo at its end")
		}
	}
	if b := impl.RunAll(s); !same(a, b) {
		wrong("again it is ", b, ", not ", a)
	}
}

// stepsUpTo are all numbers up to one, or, of many, the first ones and the last ones.
func stepsUpTo(most int) []int {
	var out []int
	for n := range most + 1 {
		if n <= 40 || n > most-12 {
			out = append(out, n)
		}
	}
	return out
}

func belowIn(w impl.World, a int, b int) bool {
	if a == b || b == impl.ClassObj {
		return true
	}
	if a <= impl.ClassObj {
		return false
	}
	return belowIn(w, w.Classes[a].Super, b) || slices.ContainsFunc(w.Classes[a].Faces, func(f int) bool { return belowIn(w, f, b) })
}

func knownIn(w impl.World, loader int, name string) int {
	if at := slices.Index([]string{"Obj", "Err"}, name); at >= 0 {
		return at
	}
	for _, k := range w.Known {
		if k.Loader == loader && k.Name == name {
			return k.Class
		}
	}
	return -1
}

// agreesIn says whether a value agrees with a type, as a loader knows it.
func agreesIn(r impl.Run, loader int, kind string, v impl.Val) bool {
	if kind == "I" {
		return v.Tag == impl.TagInt
	}
	if v.Tag != impl.TagRef || v.Num < 0 || v.Num > len(r.Heap) {
		return false
	}
	class := knownIn(r.World, loader, strings.Trim(kind, "L;"))
	if v.Num == 0 || class < 0 || r.World.Classes[class].File.Flags&impl.FlagFace != 0 {
		return true
	}
	return belowIn(r.World, r.Heap[v.Num-1].Class, class)
}

// checkState holds a run at one step against the promises 24, 25, 33 and 34.
func checkState(t *testing.T, what string, s impl.Start, r impl.Run) {
	t.Helper()
	w := r.World
	if len(r.Heap) > s.Room || len(r.Acts) > impl.ActMax || len(w.Classes) > impl.ClassMax || r.Steps+r.Fuel != s.Fuel || len(r.Out) > r.Steps || r.Room != s.Room || r.Prove != s.Prove {
		t.Fatal(what, "out of bounds", len(r.Heap), len(r.Acts), len(w.Classes), r.Steps, r.Fuel)
	}
	for _, n := range r.Out {
		if n < math.MinInt32 || n > math.MaxInt32 {
			t.Fatal(what, n)
		}
	}
	if over := r.End == impl.EndFine || r.End == impl.EndThrown; len(r.Acts) == 0 && !over && r.End != impl.EndFault || len(r.Acts) > 0 && over {
		t.Fatal(what, r.End, len(r.Acts))
	}
	for _, o := range r.Heap {
		for at := o.Class; at >= 0; at = w.Classes[at].Super {
			if w.Classes[at].State != impl.StateLinked || w.Classes[at].Begun == impl.BeginNone {
				t.Fatal(what, "an object of", w.Classes[at].Name, "that was not begun")
			}
		}
		if len(o.Fields) != len(w.Classes[o.Class].Slots) {
			t.Fatal(what, "fields", o)
		}
	}
	checkActs(t, what, r)
	checkKnown(t, what, w)
	if s.Prove {
		checkFields(t, what, r)
	}
}

func checkActs(t *testing.T, what string, r impl.Run) {
	t.Helper()
	for i, a := range r.Acts {
		c := r.World.Classes[a.Class]
		m := c.File.Methods[a.At]
		if c.State != impl.StateLinked || a.Begins != -1 && (a.Begins != a.Class || c.Begun != impl.BeginRuns || i == 0) || len(a.Locals) != m.Locals {
			t.Fatal(what, "act", i, a)
		}
		if r.Prove && (len(a.Stack) > m.Deep || a.Pc < 0 || a.Pc >= len(m.Code)) {
			t.Fatal(what, "act", i, a)
		}
		for at, v := range append(slices.Clone(a.Stack), a.Locals...) {
			isNone := v == impl.Val{} && at >= len(a.Stack)
			if !isNone && v.Tag != impl.TagInt && (v.Tag != impl.TagRef || v.Num < 0 || v.Num > len(r.Heap)) {
				t.Fatal(what, "act", i, a)
			}
		}
	}
}

func checkKnown(t *testing.T, what string, w impl.World) {
	t.Helper()
	for i, k := range w.Known {
		if w.Classes[k.Class].Name != k.Name || slices.ContainsFunc(w.Known[:i], func(o impl.Known) bool { return o.Loader == k.Loader && o.Name == k.Name }) {
			t.Fatal(what, known(w))
		}
	}
	for _, b := range w.Bonds {
		for _, loader := range b.Loaders {
			if class := knownIn(w, loader, b.Name); class != -1 && class != b.Class {
				t.Fatal(what, known(w), bonds(w))
			}
		}
	}
}

func checkFields(t *testing.T, what string, r impl.Run) {
	t.Helper()
	agrees := func(class int, at int, v impl.Val) {
		t.Helper()
		c := r.World.Classes[class]
		if kind := c.File.Pool[c.File.Fields[at].Type-1].Text; !agreesIn(r, c.Loader, kind, v) {
			t.Fatal(what, "a field of", c.Name, "that is", kind, "says", v)
		}
	}
	for _, o := range r.Heap {
		for i, s := range r.World.Classes[o.Class].Slots {
			agrees(s.Class, s.At, o.Fields[i])
		}
	}
	for class, c := range r.World.Classes {
		for at, v := range c.Statics {
			agrees(class, at, v)
		}
	}
}

// checkGoesOn holds a run against itself behind fewer steps: promise 26, and what is left as it was.
func checkGoesOn(t *testing.T, what string, s impl.Start, before impl.Run, r impl.Run) {
	t.Helper()
	if len(r.Out) < len(before.Out) || !same(r.Out[:len(before.Out)], before.Out) {
		t.Fatal(what, before.Out, r.Out)
	}
	w, x := before.World, r.World
	if len(x.Known) < len(w.Known) || !same(x.Known[:len(w.Known)], w.Known) || len(x.Classes) < len(w.Classes) {
		t.Fatal(what, known(w), known(x))
	}
	for i, c := range w.Classes {
		now := x.Classes[i]
		if now.State < c.State || now.Begun < c.Begun || now.Name != c.Name || now.Loader != c.Loader || now.Super != c.Super || !same(now.File, c.File) {
			t.Fatal(what, "class", i)
		}
	}
	if before.End != impl.EndNot && !same(before, r) {
		t.Fatal(what, "something changes behind the end")
	}
	isStop := r.End == impl.EndFault || r.End == impl.EndRoom || r.End == impl.EndDeep || r.End == impl.EndConfused
	if before.End == impl.EndNot && isStop && !slices.ContainsFunc(s.Picks, func(p impl.Pick) bool { return p.At == before.Steps }) {
		if !same(before.World, r.World) || !same(before.Heap, r.Heap) || !same(before.Acts, r.Acts) || !same(before.Out, r.Out) {
			t.Fatal(what, "not all is left as it was")
		}
	}
}

// opWorld are loaders that ops of M, told by lines, can work with. A is below Obj, B below A, E below Err, C has the face F, H is abstract, K below it lacks its method.
func opWorld(t *testing.T, src string) []impl.Loader {
	t.Helper()
	seven := func(name string, flags int, n int) string {
		return fmt.Sprint("method ", name, " ()I ", flags, " 1 ", 1-flags%2, "\npush ", n, "\ngiveint\n")
	}
	a := "class A Obj 0\nfield n I 0\nfield r LA; 0\nfield s I 1\nfield q LA; 1\nfield p I 2\n" +
		seven("f", 0, 7) + seven("x", impl.MemPrivate, 5) + seven("t", impl.MemStatic, 6) +
		"method g (ILA;)LA; 0 2 3\nload 1\nprint\nrefload 2\ngiveref\n" + "method own ()I 0 1 1\nrefload 0\nvirtual A x ()I\ngiveint\n" + "method v ()V 0 0 1\ngive\n"
	b := "class B A 0\nfield n I 0\n" + seven("f", 0, 8) + seven("x", 0, 4) + "method up ()I 0 1 1\nrefload 0\nspecial A f ()I\ngiveint\n"
	faces := "class F Obj 5\nfield z I 1\nfield y LF; 1\n" + asks("f", "()I") + seven("t", impl.MemStatic, 3) + "class C Obj 0\nface F\nfield m LObj; 0\n" + seven("f", 0, 9)
	h := "class H Obj 4\nface F\n" + asks("h", "()I") + "class K H 0\n" + "class E Err 0\n"
	return []impl.Loader{loaderOf(t, -1, a+b+faces), loaderOf(t, 0, h), loaderOf(t, 1, src)}
}

// mainOf is M with ops as its main.
func mainOf(deep int, locals int, ops string) string {
	return fmt.Sprint("class M Obj 0\nmethod main ()V 1 ", deep, " ", locals, "\n", ops, "\n")
}

// opStart is a start of ops in opWorld.
func opStart(t *testing.T, ops string) impl.Start {
	t.Helper()
	return startOf(opWorld(t, mainOf(4, 2, lines(ops)))...)
}

// lines puts ops, told with ` / ` between, one on a line.
func lines(ops string) string {
	return strings.ReplaceAll(ops, " / ", "\n")
}
