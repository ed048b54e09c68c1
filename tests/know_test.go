package tests

import (
	"fmt"
	"math"
	"slices"
	"strings"
	"testing"

	"loop.example/stowage/impl"
)

// marks are what is known of places, as kinds stand in lines.
func marks(list []impl.Mark) string {
	var out []string
	for _, m := range list {
		kind := "?"
		if m.Tag >= impl.TagNone && m.Tag <= impl.TagRef {
			kind = []string{"-", "I", "N", "L"}[m.Tag]
		}
		if m.Tag == impl.TagRef {
			m.Name += ";"
		}
		out = append(out, kind+m.Name)
	}
	return listOf(out)
}

// knows is what is known ahead of each op, as `AT LOCALS STACK`, with ` / ` between.
func knows(list []impl.Know) string {
	var out []string
	for _, k := range list {
		out = append(out, fmt.Sprint(k.At, " ", marks(k.Locals), " ", marks(k.Stack)))
	}
	return strings.Join(out, " / ")
}

// wantKnows asks what is known of the first method of M; wanted is told of its ops, in order, without their places.
func wantKnows(t *testing.T, what string, src string, want ...string) {
	t.Helper()
	c := classOf(src)
	ops, _ := impl.OpsGet(c.Methods[0].Code)
	var all []string
	for i, state := range want {
		all = append(all, fmt.Sprint(ops[i].At, " ", state))
	}
	if got := knows(impl.KnowOf(proofWorld(t, src).Loaders, 0, "M", 0)); got != strings.Join(all, " / ") || len(want) != len(ops) {
		t.Errorf("%s: %s, wanted %s", what, got, strings.Join(all, " / "))
	}
}

// knowBy is M with a method.
func knowBy(desc string, flags int, locals int, body string) string {
	return fmt.Sprint("class M A 0\nmethod m ", desc, " ", flags, " 4 ", locals, "\n", lines(body), "\n")
}

// At first the object, if there is one, and what the method takes are known.
func TestKnowFirst(t *testing.T) {
	for _, c := range []struct {
		desc   string
		flags  int
		locals int
		want   string
	}{
		{"()V", 0, 1, "LM; ."}, {"()V", 2, 1, "LM; ."}, {"()V", 4, 1, "LM; ."}, {"()V", 6, 2, "LM;,- ."},
		{"()V", 1, 0, ". ."}, {"()V", 1, 1, "- ."}, {"()V", 3, 8, "-,-,-,-,-,-,-,- ."},
		{"(I)V", 0, 2, "LM;,I ."}, {"(I)V", 1, 1, "I ."}, {"(I)V", 1, 3, "I,-,- ."},
		{"(LX;ILObj;LM;)V", 0, 6, "LM;,LX;,I,LObj;,LM;,- ."}, {"(LX;ILObj;LM;)V", 1, 4, "LX;,I,LObj;,LM; ."},
	} {
		wantKnows(t, fmt.Sprint(c.desc, " ", c.flags, " ", c.locals), knowBy(c.desc, c.flags, c.locals, "give"), c.want)
	}
}

// What each op takes and puts is known behind it, and not ahead of it.
func TestKnowOps(t *testing.T) {
	for _, c := range []struct {
		body string
		want string
	}{
		{"push 1 / store 1 / load 1 / print / give", "LM;,- . / LM;,- I / LM;,I . / LM;,I I / LM;,I ."},
		{"null / refstore 1 / refload 1 / pop / give", "LM;,- . / LM;,- N / LM;,N . / LM;,N N / LM;,N ."},
		{"refload 0 / refstore 1 / null / refstore 0 / give", "LM;,- . / LM;,- LM; / LM;,LM; . / LM;,LM; N / N,LM; ."},
		{"push 1 / null / swap / dup / give", "LM;,- . / LM;,- I / LM;,- I,N / LM;,- N,I / LM;,- N,I,I"},
		{"push 1 / push 2 / add / push 3 / sub / push 4 / mul / push 5 / div / give", "LM;,- . / LM;,- I / LM;,- I,I / LM;,- I / LM;,- I,I / LM;,- I / LM;,- I,I / LM;,- I / LM;,- I,I / LM;,- I"},
		{"nop / nop / give", "LM;,- . / LM;,- . / LM;,- ."},
		{"new X / refstore 1 / new Obj / refstore 1 / give", "LM;,- . / LM;,- LX; / LM;,LX; . / LM;,LX; LObj; / LM;,LObj; ."},
		{"new X / get X f LY; / null / put Y g LZ; / give", "LM;,- . / LM;,- LX; / LM;,- LY; / LM;,- LY;,N / LM;,- ."},
		{"getall X f I / putall X f I / getall X g LZ; / putall X g LZ; / give", "LM;,- . / LM;,- I / LM;,- . / LM;,- LZ; / LM;,- ."},
		{"new X / push 1 / virtual X f (I)LY; / virtual Y g ()V / give", "LM;,- . / LM;,- LX; / LM;,- LX;,I / LM;,- LY; / LM;,- ."},
		{"refload 0 / special A f ()I / give", "LM;,- . / LM;,- LM; / LM;,- I"},
		{"push 1 / null / static X f (ILY;)LZ; / static X g (LZ;)V / give", "LM;,- . / LM;,- I / LM;,- I,N / LM;,- LZ; / LM;,- ."},
		{"null / face X f ()LY; / face X g ()I / give", "LM;,- . / LM;,- N / LM;,- LY; / LM;,- I"},
		{"null / cast X / is Y / give", "LM;,- . / LM;,- N / LM;,- LX; / LM;,- I"},
		{"null / cast X / throw", "LM;,- . / LM;,- N / LM;,- LX;"},
	} {
		wantKnows(t, c.body, knowBy("()V", 0, 2, c.body), strings.Split(c.want, " / ")...)
	}
	wantKnows(t, "giveint", knowBy("()I", 1, 0, "push 1 / giveint"), ". .", ". I")
	wantKnows(t, "giveref", knowBy("()LX;", 1, 0, "new X / giveref"), ". .", ". LX;")
}

// What a frame tells is known, though more was; behind it that goes on, and no further than to the next one.
func TestKnowFrames(t *testing.T) {
	wantKnows(t, "one that tells less", knowBy("(LA;)V", 1, 2, "new A / f: / nop / pop / give / frame f LObj;,- LObj;"), "LA;,- .", "LObj;,- LObj;", "LObj;,- LObj;", "LObj;,- .")
	wantKnows(t, "one that tells the same", knowBy("(LA;)V", 1, 1, "f: / nop / give / frame f LA; ."), "LA; .", "LA; .")
	wantKnows(t, "one that tells nothing", knowBy("(LA;I)V", 1, 2, "null / f: / pop / give / frame f -,- -"), "LA;,I .", "-,- -", "-,- .")
	wantKnows(t, "a face", knowBy("(LB;)V", 1, 1, "f: / nop / give / frame f LF; ."), "LF; .", "LF; .")
	wantKnows(t, "two frames", knowBy("(LB;)V", 1, 1, "f: / nop / g: / nop / give / frame f LA; . / frame g LObj; ."), "LA; .", "LObj; .", "LObj; .")
	// A place that one goes on to, from both sides, and one that nothing comes to.
	wantKnows(t, "on", knowBy("()V", 1, 1, "push 1 / ifzero e / push 1 / store 0 / e: / give / frame e - ."), "- .", "- I", "- .", "- I", "- .")
	wantKnows(t, "a loop", knowBy("()V", 1, 1, "push 9 / store 0 / f: / load 0 / push 1 / sub / store 0 / load 0 / ifneg e / go f / e: / give / frame f I . / frame e I ."), "- .", "- I", "I .", "I I", "I I,I", "I I", "I .", "I I", "I .", "I .")
	wantKnows(t, "ifnull and ifsame", knowBy("(LX;)V", 1, 1, "refload 0 / ifnull e / null / refload 0 / ifsame e / nop / e: / give / frame e - ."), "LX; .", "LX; LX;", "LX; .", "LX; N", "LX; N,LX;", "LX; .", "- .")
	for _, end := range []string{"give", "null / throw", "go f", "go g"} {
		src := knowBy("()V", 1, 1, "g: / nop / "+end+" / f: / refload 0 / get X i I / store 0 / give / frame f LX; . / frame g - .")
		if strings.HasPrefix(end, "go") {
			src = strings.Replace(src, "frame f LX;", "frame f "+map[string]string{"go f": "N", "go g": "LX;"}[end], 1)
		}
		if end == "go f" {
			src = strings.Replace(src, "nop", "null\nrefstore 0", 1)
			wantKnows(t, end, src, "- .", "- N", "N .", "N .", "N N", "N I", "I .")
			continue
		}
		want := []string{"- .", "- .", "LX; .", "LX; LX;", "LX; I", "I ."}
		if end == "null / throw" {
			want = append([]string{"- .", "- .", "- N"}, want[2:]...)
		}
		wantKnows(t, "behind "+end, src, want...)
	}
}

// Where a trap leads to, one object is known, and what the frame tells of it.
func TestKnowTraps(t *testing.T) {
	for _, c := range []struct{ trap, kind string }{{"Err", "LErr;"}, {"-", "LObj;"}, {"X", "LX;"}, {"X", "LObj;"}, {"B", "LA;"}, {"B", "LF;"}, {"Err", "-"}} {
		src := knowBy("(I)V", 1, 2, "f: / null / refstore 1 / g: / give / h: / pop / give / trap f g h "+c.trap+" / frame h I,- "+c.kind)
		wantKnows(t, c.trap+" as "+c.kind, src, "I,- .", "I,- N", "I,N .", "I,- "+c.kind, "I,- .")
	}
	// What stood on the stack is gone, and nothing comes there but by the trap.
	wantKnows(t, "a full stack", knowBy("()V", 1, 1, "null / push 1 / f: / nop / e: / give / h: / throw / trap f e h - / frame h - LObj;"), "- .", "- N", "- N,I", "- N,I", "- LObj;")
	wantKnows(t, "the trap's own place", knowBy("()V", 1, 1, "give / h: / throw / trap h end h Err / frame h - LErr;"), "- .", "- LErr;")
}

// Each method by its place, the first one and the last; one without a body knows nothing.
func TestKnowMethods(t *testing.T) {
	src := "class M A 4\n" + asks("a", "()V") + "method b (I)V 1 0 1\ngive\n" + asks("c", "()V") + "method begin ()V 1 0 2\ngive\nmethod d (LX;)V 2 1 2\nrefload 1\nthrow\nmethod e ()V 0 0 1\ngive\n"
	list := proofWorld(t, src).Loaders
	for at, want := range []string{"", "0 I .", "", "0 -,- .", "0 LM;,LX; . / 2 LM;,LX; LX;", "0 LM; .", "", ""} {
		if got := knows(impl.KnowOf(list, 0, "M", at)); got != want {
			t.Errorf("%d: %s, wanted %s", at, got, want)
		}
	}
	for _, at := range []int{-1, -2, 6, 7, math.MinInt, math.MaxInt} {
		if got := impl.KnowOf(list, 0, "M", at); len(got) > 0 {
			t.Error(at, got)
		}
	}
	face := proofWorld(t, "class M Obj 5\n"+asks("a", "()V")+"method b (LM;)V 1 0 1\ngive\n").Loaders
	if got := knows(impl.KnowOf(face, 0, "M", 1)); got != "0 LM; ." {
		t.Error("a face", got)
	}
	if got := impl.KnowOf(face, 0, "F", 0); len(got) > 0 {
		t.Error("a face without methods", got)
	}
}

// Whoever makes the class, names are those that its own loader means.
func TestKnowLoaders(t *testing.T) {
	zero := "class A Obj 0\nclass B A 0\nmethod m (LA;)V 0 1 2\nrefload 1\nputall B f LA;\ngive\n"
	one := "class A Obj 5\nclass C B 0\nmethod n (LB;)V 1 1 1\nrefload 0\nputall C f LA;\ngive\n"
	list := []impl.Loader{loaderOf(t, -1, zero), loaderOf(t, 0, one, impl.Way{Name: "D", To: 2}), loaderOf(t, -1, "class D Obj 0\nmethod p (LD;)V 1 0 1\ngive\n")}
	for _, c := range []struct {
		loader int
		name   string
		want   string
	}{
		{0, "B", "0 LB;,LA; . / 2 LB;,LA; LA; / 5 LB;,LA; ."}, {1, "B", "0 LB;,LA; . / 2 LB;,LA; LA; / 5 LB;,LA; ."},
		{1, "C", "0 LB; . / 2 LB; LB; / 5 LB; ."}, {0, "C", ""}, {2, "C", ""}, {2, "B", ""},
		{1, "D", "0 LD; ."}, {2, "D", "0 LD; ."}, {0, "D", ""}, {0, "A", ""},
	} {
		if got := knows(impl.KnowOf(list, c.loader, c.name, 0)); got != c.want {
			t.Errorf("%d %s: %s, wanted %s", c.loader, c.name, got, c.want)
		}
	}
}

// Loaders that are not ok, one that is not there, names that are none, and the two that are always there.
func TestKnowNotOk(t *testing.T) {
	good := func() []impl.Loader { return proofWorld(t, knowBy("()V", 1, 0, "give")).Loaders }
	if knows(impl.KnowOf(good(), 0, "M", 0)) != "0 . ." {
		t.Fatal(knows(impl.KnowOf(good(), 0, "M", 0)))
	}
	for _, loader := range []int{-1, 2, 3, math.MinInt, math.MaxInt} {
		if got := impl.KnowOf(good(), loader, "M", 0); len(got) > 0 {
			t.Error("loader", loader, got)
		}
	}
	for _, name := range append(notAsked(), "A", "B", "C", "F", "X") {
		for at := range 2 {
			if got := impl.KnowOf(good(), 0, name, at); len(got) > 0 {
				t.Errorf("%.9q: %v", name, got)
			}
		}
	}
	m := fileOf(t, knowBy("()V", 1, 0, "give"))
	for _, f := range loaderFaults {
		list := soundLoaders(t)
		list[0].Files[1], list[0].Files[4] = m, fileOf(t, srcA)
		if knows(impl.KnowOf(list, 0, "M", 0)) != "0 . ." {
			t.Fatal("sound loaders")
		}
		list = f.turn(list)
		for loader := range list {
			if got := impl.KnowOf(list, loader, "M", 0); len(got) > 0 {
				t.Error(f.name, got)
			}
		}
	}
}

// A class that cannot be brought, laid out or proved knows nothing, be the method itself fine.
func TestKnowFaults(t *testing.T) {
	none := func(what string, code int, name string, list ...impl.Loader) {
		t.Helper()
		w, class, fault := impl.WorldLoad(impl.WorldNew(list), 0, name)
		if fault.Code == impl.FaultFine {
			_, fault = impl.WorldLink(w, class)
		}
		if fault.Code != code {
			t.Fatal(what, fault)
		}
		for at := range 2 {
			if got := impl.KnowOf(list, 0, name, at); len(got) > 0 {
				t.Errorf("%s: %s", what, knows(got))
			}
		}
	}
	give := "method m ()V 1 1 1\ngive\n"
	some := func(what string, list ...impl.Loader) {
		t.Helper()
		if got := knows(impl.KnowOf(list, 0, "M", 0)); got != "0 - ." {
			t.Errorf("%s: %s", what, got)
		}
	}
	by := func(src string) impl.Loader { return loaderOf(t, -1, src) }
	some("fine", by("class M Obj 0\n"+give))
	none("nobody makes it", impl.FaultNone, "N", by("class M Obj 0\n"+give))
	none("what is above it is not there", impl.FaultNone, "M", by("class M X 0\n"+give))
	none("a face is not there", impl.FaultNone, "M", by("class M Obj 0\nface F\n"+give))
	none("what is above it is a face", impl.FaultKind, "M", by("class M F 0\n"+give+"class F Obj 5\n"))
	none("what is above it is final", impl.FaultKind, "M", by("class M A 0\n"+give+"class A Obj 2\n"))
	none("a face that is none", impl.FaultKind, "M", by("class M Obj 0\nface A\n"+give+srcA))
	none("round", impl.FaultCircle, "M", by("class M A 0\n"+give+"class A M 0\n"))
	none("its own parent", impl.FaultCircle, "M", impl.Loader{})
	none("a file of another class", impl.FaultForm, "N", impl.Loader{Parent: -1, Files: []impl.File{{Name: "N", Text: textOf(t, "class M Obj 0\n"+give)}}})
	none("a file that is none", impl.FaultForm, "M", impl.Loader{Parent: -1, Files: []impl.File{{Name: "M", Text: textOf(t, "class M Obj 0\n"+give) + "x"}}})
	most := chain(t, 10)
	most[0].Files = []impl.File{fileOf(t, "class M N10 0\n"+give)}
	none("one class too many", impl.FaultFull, "M", most...)
	most[0].Files = []impl.File{fileOf(t, "class M N9 0\n"+give)}
	some("as many classes as may be", most...)
	none("final above", impl.FaultFinal, "M", by("class M A 0\n"+give+does("f", "()V", 0)+"class A Obj 0\n"+does("f", "()V", impl.MemFinal)))
	two := "class A Obj 0\n" + does("f", "(LX;)V", 0)
	own := "class X Obj 0\nclass M A 0\nface X\n" + give + does("f", "(LX;)V", 0)
	none("two classes by one name", impl.FaultBond, "M", loaderOf(t, 1, strings.ReplaceAll(own, "class X Obj 0", "class X Obj 5")), by("class X Obj 0\n"+strings.Replace(two, "A Obj", "A X", 1)))
	some("two that are one", loaderOf(t, 1, strings.Replace(strings.ReplaceAll(own, "class X Obj 0\n", ""), "face X\n", "", 1)), by("class X Obj 0\n"+strings.Replace(two, "A Obj", "A X", 1)))
	bad := "method n ()V 1 1 1\npop\ngive\n"
	none("it cannot be proved", impl.FaultProof, "M", by("class M Obj 0\n"+bad))
	none("another method cannot be proved", impl.FaultProof, "M", by("class M Obj 0\n"+give+bad))
	none("one ahead cannot be proved", impl.FaultProof, "M", by("class M Obj 0\n"+bad+give))
	none("what is above it cannot be proved", impl.FaultProof, "M", by("class M A 0\n"+give+"class A Obj 0\n"+bad))
	none("a proof cannot bring", impl.FaultNone, "M", by("class M Obj 0\n"+give+"method n (LX;)V 1 1 1\nrefload 0\nputall M f LY;\ngive\n"))
	some("a face that cannot be proved", by("class M Obj 0\nface F\n"+give+"class F Obj 5\n"+bad))
	some("a class that is not proved for it", by("class M Obj 0\n"+give+"method n ()V 1 1 1\nnew A\nputall M f LA;\ngive\nclass A Obj 0\n"+bad))
}

// Promise 60, of methods that are made up, held against a second telling.
func TestPromiseKnowAll(t *testing.T) {
	t.Parallel()
	seen := map[bool]int{}
	for seed := range 6000 {
		src := randomProof(newDice(seed))
		c := classOf(src)
		if impl.ClassCheck(c) != impl.FormFine {
			continue
		}
		p := &teller{class: c, method: c.Methods[0]}
		p.tell()
		list := impl.KnowOf(proofWorld(t, src).Loaders, 0, "M", 0)
		want := ""
		if p.wrong == "" {
			want = strings.Join(p.ahead, " / ")
		}
		if got := knows(list); got != want {
			t.Fatalf("seed %d: %s, wanted %s, of\n%s", seed, got, want, src)
		}
		seen[want != ""]++
		checkKnows(t, fmt.Sprint("seed ", seed), c, 0, list)
	}
	if seen[true] < 300 || seen[false] < 300 {
		t.Error("too few of some", seen)
	}
}

// checkKnows holds what is known of a method against promise 60.
func checkKnows(t *testing.T, what string, c impl.Class, at int, list []impl.Know) {
	t.Helper()
	if len(list) == 0 {
		return
	}
	m := c.Methods[at]
	ops, _ := impl.OpsGet(m.Code)
	deeps := impl.KnowDeep(c, at)
	if len(list) != len(ops) || len(deeps) != len(ops) {
		t.Fatal(what, len(list), len(deeps), len(ops))
	}
	for i, k := range list {
		if k.At != ops[i].At || len(k.Locals) != m.Locals || len(k.Stack) > m.Deep || i == 0 && len(k.Stack) > 0 {
			t.Fatal(what, i, k)
		}
		if deeps[i] != -1 && deeps[i] != len(k.Stack) {
			t.Fatal(what, i, k, deeps)
		}
		for _, mark := range append(k.Locals, k.Stack...) {
			if mark.Tag == impl.TagRef != (mark.Name != "") || mark.Tag < impl.TagNone || mark.Tag > impl.TagRef {
				t.Fatal(what, i, mark)
			}
		}
	}
}

// knower asks what is known of a run's methods, of each once.
type knower struct {
	list []impl.Loader
	told map[string][]impl.Know
}

func (k knower) of(c impl.Cls, at int) []impl.Know {
	key := fmt.Sprint(c.Loader, " ", c.Name, " ", at)
	if _, ok := k.told[key]; !ok {
		k.told[key] = impl.KnowOf(k.list, c.Loader, c.Name, at)
	}
	return k.told[key]
}

// agreesWithMark says whether a value is as a proof knows it, of a class as a loader knows it.
func agreesWithMark(r impl.Run, loader int, m impl.Mark, v impl.Val) bool {
	switch m.Tag {
	case impl.TagInt:
		return v.Tag == impl.TagInt
	case impl.TagNull:
		return v == impl.Val{Tag: impl.TagRef}
	case impl.TagRef:
		return agreesIn(r, loader, "L"+m.Name+";", v)
	}
	return true
}

// Promise 61, at each step of starts that are made up.
func TestPromiseRunIsKnown(t *testing.T) {
	t.Parallel()
	steps, marked := 0, map[int]int{}
	for seed := range 400 {
		s := randomStart(newDice(seed))
		s.Prove, s.Picks = true, nil
		k := knower{s.Loaders, map[string][]impl.Know{}}
		for n := range impl.RunAll(s).Steps {
			r := impl.RunTo(s, n)
			a := r.Acts[len(r.Acts)-1]
			c := r.World.Classes[a.Class]
			all := k.of(c, a.At)
			at := slices.IndexFunc(all, func(one impl.Know) bool { return one.At == a.Pc })
			if at < 0 || len(all[at].Stack) != len(a.Stack) || len(all[at].Locals) != len(a.Locals) {
				t.Fatal(seed, n, c.Name, all, a)
			}
			steps++
			values := append(a.Locals, a.Stack...)
			for i, m := range append(all[at].Locals, all[at].Stack...) {
				marked[m.Tag]++
				if !agreesWithMark(r, c.Loader, m, values[i]) {
					t.Fatal(seed, n, all[at], a)
				}
			}
		}
		for key, list := range k.told {
			var loader, at int
			var name string
			fmt.Sscan(key, &loader, &name, &at)
			w, class, _ := impl.WorldLoad(impl.WorldNew(s.Loaders), loader, name)
			checkKnows(t, key, w.Classes[class].File, at, list)
		}
	}
	if steps < 3000 || marked[impl.TagInt] < 300 || marked[impl.TagNull] < 30 || marked[impl.TagRef] < 300 {
		t.Error("too few", steps, marked)
	}
}
