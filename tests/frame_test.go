package tests

import (
	"fmt"
	"math"
	"slices"
	"strings"
	"testing"

	"loop.example/stowage/impl"
)

// foundBy is M below A with a static method of three places and four values deep, told with ` / ` between.
func foundBy(body string) string {
	return "class M A 0\nmethod m ()V 1 4 3\n" + lines(body) + "\n"
}

// make is an op that puts a value of a kind.
func makeOp(kind string) string {
	switch kind {
	case "I":
		return "push 7"
	case "N":
		return "null"
	}
	return "new " + strings.Trim(kind, "L;")
}

// Each two kinds that come to one place by two ways, in a local and on the stack, whichever comes first.
func TestFoundTwoWays(t *testing.T) {
	many := map[bool]int{}
	for _, a := range allKinds {
		for _, b := range allKinds {
			both := bothIn(a, b)
			many[both == ""]++
			var bodies []string
			set := func(kind string) string {
				if kind == "-" {
					return "nop"
				}
				return makeOp(kind) + " / " + map[bool]string{true: "store 1", false: "refstore 1"}[kind == "I"]
			}
			bodies = append(bodies, "push 1 / ifzero f / "+set(a)+" / go e / f: / "+set(b)+" / e: / give / frame f -,-,- . / frame e -,"+both+",- .")
			if a != "-" && b != "-" {
				bodies = append(bodies, makeOp(a)+" / push 1 / ifzero e / pop / "+makeOp(b)+" / e: / pop / give / frame e -,-,- "+both)
				bodies = append(bodies, "push 5 / push 1 / ifzero f / "+makeOp(a)+" / push 8 / go e / f: / "+makeOp(b)+" / push 9 / e: / pop / pop / pop / give / frame f -,-,- I / frame e -,-,- I,"+both+",I")
			}
			for _, body := range bodies {
				what := a + " and " + b
				if both == "" {
					wantLost(t, what, foundBy(strings.Split(body, " / frame")[0]))
				} else {
					wantFound(t, what, foundBy(body))
				}
			}
		}
	}
	if many[true] != 38 {
		t.Error(many)
	}
}

// What two kinds both are, told one by one.
func TestFoundBoth(t *testing.T) {
	for _, c := range []struct{ a, b, want string }{
		{"I", "I", "I"}, {"N", "N", "N"}, {"-", "-", "-"}, {"LA;", "LA;", "LA;"}, {"LX;", "LX;", "LX;"}, {"LF;", "LF;", "LF;"},
		{"I", "N", "-"}, {"I", "LA;", "-"}, {"I", "-", "-"}, {"N", "-", "-"}, {"LA;", "-", "-"}, {"I", "LX;", "-"}, {"LX;", "-", "-"},
		{"N", "LA;", "LA;"}, {"N", "LObj;", "LObj;"}, {"N", "LF;", "LF;"}, {"N", "LX;", "LX;"},
		{"LA;", "LB;", "LA;"}, {"LN;", "LM;", "LM;"}, {"LN;", "LA;", "LA;"}, {"LN;", "LB;", "LA;"}, {"LB;", "LM;", "LA;"}, {"LA;", "LC;", "LObj;"}, {"LA;", "LErr;", "LObj;"}, {"LN;", "LObj;", "LObj;"},
		{"LF;", "LG;", "LObj;"}, {"LF;", "LA;", "LObj;"}, {"LF;", "LObj;", "LObj;"}, {"LF;", "LErr;", "LObj;"},
		{"LX;", "LA;", ""}, {"LX;", "LY;", ""}, {"LX;", "LF;", ""}, {"LX;", "LObj;", ""}, {"LX;", "LErr;", ""},
	} {
		if one, other := bothIn(c.a, c.b), bothIn(c.b, c.a); one != c.want || other != c.want {
			t.Errorf("%s and %s: %s and %s, wanted %s", c.a, c.b, one, other, c.want)
		}
	}
}

// foundCases are methods, and the frames that they need.
var foundCases = []struct {
	what string
	body string
}{
	{"nothing leads anywhere", "push 1 / pop / give"},
	{"only one op", "give"},
	{"to the next op", "push 1 / ifzero e / e: / give / frame e -,-,- ."},
	{"to itself", "e: / go e / frame e -,-,- ."},
	{"to the first", "f: / push 1 / ifneg f / give / frame f -,-,- ."},
	{"from one side alone", "go e / e: / give / frame e -,-,- ."},
	{"past another one", "null / ifnull f / go e / f: / give / e: / give / frame f -,-,- . / frame e -,-,- ."},
	{"to many places at once", "push 1 / ifzero a / push 1 / ifzero b / push 1 / ifzero c / push 1 / ifzero d / push 1 / ifzero e / give / e: / nop / give / d: / nop / give / c: / nop / give / b: / nop / give / a: / nop / give / frame a -,-,- . / frame b -,-,- . / frame c -,-,- . / frame d -,-,- . / frame e -,-,- ."},
	{"three ways", "new B / refstore 0 / null / ifnull e / new N / refstore 0 / null / null / ifsame e / new M / refstore 0 / e: / give / frame e LA;,-,- ."},
	{"three ways, the third is another one", "new B / refstore 0 / null / ifnull e / new N / refstore 0 / null / null / ifsame e / new C / refstore 0 / e: / give / frame e LObj;,-,- ."},
	{"none, then two", "null / refstore 0 / push 1 / ifneg e / new B / refstore 0 / push 1 / ifneg e / new A / refstore 0 / e: / give / frame e LA;,-,- ."},
	{"what stands below", "push 1 / null / push 2 / ifzero e / nop / e: / pop / pop / give / frame e -,-,- I,N"},
	{"all places", "push 1 / store 0 / null / refstore 1 / new B / refstore 2 / go e / e: / give / frame e I,N,LB; ."},
	{"behind a frame more is known", "go f / f: / push 1 / store 0 / load 0 / ifzero f / load 0 / print / give / frame f -,-,- ."},
	{"what is known in between is kept", "push 1 / store 0 / f: / load 0 / push 1 / sub / store 0 / load 0 / ifneg e / go f / e: / give / frame f I,-,- . / frame e I,-,- ."},

	{"a loop that makes a number of another", "f: / push 1 / store 0 / push 2 / ifzero f / load 0 / print / give / frame f -,-,- ."},
	{"a loop that makes an object", "null / refstore 0 / f: / new B / refstore 0 / push 1 / ifzero f / give / frame f LB;,-,- ."},
	{"a loop that makes another object", "new M / refstore 0 / f: / new B / refstore 0 / push 1 / ifzero f / give / frame f LA;,-,- ."},
	{"a loop that hands on", "new B / refstore 0 / new B / refstore 1 / new B / refstore 2 / f: / refload 1 / refstore 0 / refload 2 / refstore 1 / new C / refstore 2 / push 1 / ifzero f / give / frame f LObj;,LObj;,LObj; ."},
	{"a loop that hands on step by step", "new N / refstore 0 / new N / refstore 1 / new N / refstore 2 / f: / refload 1 / refstore 0 / refload 2 / refstore 1 / new M / refstore 2 / push 1 / ifzero f / give / frame f LM;,LM;,LM; ."},
	{"a loop that turns two places", "new B / refstore 0 / null / refstore 1 / f: / refload 0 / refload 1 / refstore 0 / refstore 1 / go f / frame f LB;,LB;,- ."},
	{"two loops", "new N / refstore 0 / f: / push 1 / ifzero g / new M / refstore 0 / go f / g: / push 1 / ifneg f / new A / refstore 0 / go g / frame f LA;,-,- . / frame g LA;,-,- ."},
	{"back to what leads on", "go g / f: / give / g: / new B / refstore 0 / push 1 / ifzero f / go h / h: / null / refstore 0 / go g / frame f LB;,-,- . / frame g -,-,- . / frame h LB;,-,- ."},
	{"back, with none", "null / refstore 0 / go g / f: / give / g: / push 1 / ifzero f / new B / refstore 0 / go g / frame f LB;,-,- . / frame g LB;,-,- ."},

	{"a trap", "f: / new B / e: / pop / give / h: / pop / give / trap f e h Err / frame h -,-,- LErr;"},
	{"a trap of any", "f: / new B / e: / pop / give / h: / pop / give / trap f e h - / frame h -,-,- LObj;"},
	{"a trap of what cannot be brought", "f: / new B / e: / pop / give / h: / pop / give / trap f e h X / frame h -,-,- LX;"},
	{"a trap of two ops", "f: / push 1 / store 0 / e: / give / h: / pop / give / trap f e h Err / frame h -,-,- LErr;"},
	{"what stands ahead of the op", "push 1 / f: / store 0 / e: / give / h: / pop / give / trap f e h Err / frame h -,-,- LErr;"},
	{"what stands behind another", "push 1 / store 0 / f: / null / refstore 1 / new B / e: / pop / give / h: / pop / give / trap f e h Err / frame h I,-,- LErr;"},
	{"a trap of the last op", "new B / refstore 0 / go f / h: / pop / give / f: / give / trap f end h A / frame h LB;,-,- LA; / frame f LB;,-,- ."},
	{"two traps to one place", "f: / nop / nop / e: / give / h: / pop / give / trap f e h B / trap f e h M / frame h -,-,- LA;"},
	{"two traps to two places", "f: / nop / e: / give / g: / pop / give / h: / throw / trap f e g B / trap f e h - / frame g -,-,- LB; / frame h -,-,- LObj;"},
	{"a trap to what others come to", "f: / new Err / e: / go h / h: / throw / trap f e h Err / frame h -,-,- LErr;"},
	{"a trap to what comes with another", "f: / new B / e: / h: / throw / trap f e h Err / frame h -,-,- LObj;"},
	{"a trap back to its own", "new Err / f: / pop / nop / new Err / e: / throw / trap f e f Err / frame f -,-,- LErr;"},
	{"a trap in a loop", "new B / refstore 0 / f: / push 1 / ifneg e / null / refstore 0 / go f / e: / give / h: / pop / new C / refstore 0 / go f / trap f e h - / frame f LObj;,-,- . / frame e LObj;,-,- . / frame h LObj;,-,- LObj;"},
	{"what one place holds does not matter", "f: / push 1 / push 2 / add / e: / pop / give / h: / pop / give / trap f e h Err / frame h -,-,- LErr;"},
	{"a place where two kinds were", "push 1 / push 1 / ifzero f / pop / null / f: / pop / give / frame f -,-,- -"},
	{"it can be turned and doubled", "push 1 / push 1 / ifzero f / pop / null / f: / dup / swap / pop / pop / give / frame f -,-,- -"},
}

func TestFound(t *testing.T) {
	for _, c := range foundCases {
		wantFound(t, c.what, foundBy(c.body))
	}
	// What the method takes, and its object.
	for _, c := range []struct {
		desc  string
		flags int
		frame string
	}{{"()V", 1, "-,-,-"}, {"()V", 0, "LM;,-,-"}, {"(I)V", 1, "I,-,-"}, {"(LX;I)V", 0, "LM;,LX;,I"}, {"(LX;ILObj;)V", 3, "LX;,I,LObj;"}, {"(II)V", 6, "LM;,I,I"}} {
		wantFound(t, c.desc, fmt.Sprint("class M A 0\nmethod m ", c.desc, " ", c.flags, " 0 3\n", lines("go e / e: / give / frame e "+c.frame+" ."), "\n"))
	}
}

// Methods each by itself, those without a body as they are; all else of the class stays.
func TestFoundMethods(t *testing.T) {
	wantFound(t, "methods", "class M A 4\nface F\nfield x LQ; 0\nfield y I 3\n"+asks("a", "(LQ;)I")+"method b (I)V 1 1 2\n"+lines("go e / e: / give / frame e I,- .")+"\n"+asks("c", "()V")+"method begin ()V 1 0 0\ngive\nmethod d (LX;)I 2 1 2\n"+lines("f: / push 1 / ifzero f / push 1 / giveint / frame f LM;,LX; .")+"\n")
	wantFound(t, "no methods", "class M A 2\nfield x I 0\n")
	wantFound(t, "no body", "class M Obj 5\n"+asks("a", "()V"))
	wantFound(t, "a face's own", "class M Obj 5\n"+asks("a", "()V")+"method b (LM;)V 1 0 1\n"+lines("go e / e: / give / frame e LM; .")+"\n")
	good := lines("method a ()V 1 1 0 / go e / e: / give / frame e . .") + "\n"
	bad := lines("method b ()V 1 1 0 / go e / nop / e: / give") + "\n"
	wantFound(t, "one", "class M A 0\n"+good)
	wantLost(t, "the first", "class M A 0\n"+bad+good)
	wantLost(t, "the last", "class M A 0\n"+good+bad)
}

// lostCases are methods that need what no frames tell.
var lostCases = []struct {
	what string
	body string
}{
	{"nothing leads to an op", "go e / nop / e: / give"},
	{"nothing leads to the last op", "give / give"},
	{"behind an op that ends", "null / throw / nop / give"},
	{"two that lead to each other alone", "give / f: / go g / g: / go f"},
	{"one that leads to itself", "give / f: / go f"},
	{"a place where nothing comes to, though a trap covers it", "give / f: / nop / e: / give / h: / throw / trap f e h Err"},
	{"two numbers", "push 1 / ifzero e / push 1 / e: / give"},
	{"two numbers, fewer", "push 1 / push 1 / ifzero e / pop / e: / give"},
	{"two numbers in a loop", "f: / push 1 / go f"},
	{"two numbers by a trap", "f: / nop / e: / h: / give / trap f e h Err"},
	{"two numbers of what is not taken", "push 1 / push 1 / ifzero e / push 2 / e: / give"},
	{"too few", "pop / give"},
	{"too few in a loop", "push 1 / f: / pop / go f"},
	{"more than Deep", "push 1 / push 1 / push 1 / push 1 / push 1 / give"},
	{"on behind the last op", "push 1"},
	{"on behind the last op, by one way", "f: / push 1 / ifzero f"},
	{"on behind the last op, past a place", "go e / e: / nop"},
	{"a number of nothing", "load 0 / print / give"},
	{"a number of two kinds", "push 1 / store 0 / push 1 / ifzero e / null / refstore 0 / e: / load 0 / print / give"},
	{"a number, until it comes again", "push 1 / store 0 / f: / load 0 / print / null / refstore 0 / go f"},
	{"an object of two kinds", "null / refstore 0 / push 1 / ifzero e / push 1 / store 0 / e: / refload 0 / pop / give"},
	{"an object, until it comes again", "null / refstore 0 / f: / refload 0 / pop / push 1 / store 0 / go f"},
	{"its field, until it comes again", "null / refstore 0 / f: / refload 0 / get B x I / pop / new M / refstore 0 / go f"},
	{"an object of another class", "new C / get A x I / pop / give"},
	{"an object of one above", "new A / push 1 / ifzero e / pop / new B / e: / get B x I / pop / give"},
	{"what takes it cannot be brought", "new A / get X x I / pop / give"},
	{"it cannot be brought", "new X / get A x I / pop / give"},
	{"two that cannot be brought", "new X / push 1 / ifzero e / pop / new Y / e: / pop / give"},
	{"one of two that cannot be brought", "new A / push 1 / ifzero e / pop / new Y / e: / pop / give"},
	{"one that cannot be brought beside any", "new Obj / push 1 / ifzero e / pop / new Y / e: / pop / give"},
	{"one that cannot be brought, in a loop", "new A / refstore 0 / f: / push 1 / ifzero e / new X / refstore 0 / go f / e: / give"},
	{"two traps, one of what cannot be brought", "f: / nop / e: / give / h: / pop / give / trap f e h Err / trap f e h X"},
	{"to give what it does not give back", "push 1 / giveint"},
	{"to throw a number", "push 1 / throw"},
	{"another's own", "new A / special A f ()V / give"},
	{"own, that is above nothing", "new M / special C f ()V / give"},
	{"own, that cannot be brought", "new M / special X f ()V / give"},
}

func TestLost(t *testing.T) {
	for _, c := range lostCases {
		wantLost(t, c.what, foundBy(c.body))
	}
	// Without room on the stack nothing can be caught.
	src := "class M A 0\nmethod m ()V 1 0 0\n" + lines("f: / nop / e: / give / h: / go h / trap f e h Err") + "\n"
	wantLost(t, "Deep is 0", src)
	wantFound(t, "Deep is 1", strings.Replace(src, "1 0 0", "1 1 0", 1)+"frame h . LErr;\n")
}

// As many frames as may be, and one more.
func TestFoundMost(t *testing.T) {
	for many := range impl.FrameMax + 2 {
		body := ""
		for i := range many {
			body += fmt.Sprintf("go e%d / e%d: / ", i, i)
		}
		body += "give"
		for i := range many {
			body += fmt.Sprintf(" / frame e%d -,-,- .", i)
		}
		if many <= impl.FrameMax {
			wantFound(t, fmt.Sprint(many, " frames"), foundBy(body))
		} else {
			wantLost(t, fmt.Sprint(many, " frames"), foundBy(strings.Split(body, " / frame")[0]))
		}
	}
	// All places, of as long a method as may be.
	body := strings.Repeat("null / pop / ", 50) + "f: / push 1 / push 1 / ifzero e / ifzero f / go f / e: / pop / go f / nop / frame f -,-,- . / frame e -,-,- I"
	wantLost(t, "the last op", foundBy(strings.Split(body, " / frame")[0]))
	wantFound(t, "long", foundBy(strings.Replace(body, " / nop", "", 1)))
	wantFound(t, "wide", "class M A 0\nmethod m (LA;LB;IL"+"X;)V 0 8 8\n"+lines("push 1 / null / new M / push 1 / null / new M / push 2 / push 3 / ifzero e / push 4 / pop / e: / give / frame e LM;,LA;,LB;,I,LX;,-,-,- I,N,LM;,I,N,LM;,I")+"\n")
	// One method has too many, and another one needs an entry that is not there.
	body = ""
	for i := range impl.FrameMax + 1 {
		body += fmt.Sprintf("go e%d / e%d: / ", i, i)
	}
	wantLost(t, "another method needs an entry", foundBy(body+"give")+"method n (LB;)V 1 0 1\n"+lines("go e / e: / give")+"\n")
	wantFound(t, "another method needs an entry, too", foundBy("go e / e: / give / frame e -,-,- .")+"method n (LB;)V 1 0 1\n"+lines("go e / e: / give / frame e LB; .")+"\n")
	// A class that is too great with its frames, and one that is just not.
	src := foundBy("push 1 / ifzero e / null / refstore 0 / e: / give / frame e -,-,- .")
	more := len(impl.FilePut(classOf(src))) - len(impl.FilePut(impl.FrameLess(classOf(src))))
	for _, spare := range []int{more - 2, more - 1, more, more + 1, more + 7} {
		c := impl.FrameLess(classOf(src))
		c.Pool = append(c.Pool, fillers(impl.FileMax-spare-len(impl.FilePut(c)))...)
		got, ok := impl.FrameFind(loadersBy(t, c), 0, "M")
		if ok != (spare >= more) || ok != (impl.FrameMany(got) == 3) || len(impl.FilePut(c)) != impl.FileMax-spare {
			t.Error(spare-more, ok, len(impl.FilePut(c)))
		}
	}
}

// What counts is how great the class is with the frames that are found, however many others it had.
func TestFoundSmaller(t *testing.T) {
	src := foundBy("push 1 / ifzero e / null / refstore 0 / e: / give / frame e -,-,- .") + "method n (LB;)V 1 8 8\n"
	body := "go e\ne:\nnop\nnop\nnop\nnop\nnop\nnop\ngive\n"
	for i := range 7 {
		body += fmt.Sprint("frame ", 3+i, " -,-,-,-,-,-,-,- I,I,I,I,I,I,I,I\n")
	}
	c := classOf(src + body)
	c.Pool = append(c.Pool, fillers(impl.FileMax-len(impl.FilePut(c)))...)
	got, ok := impl.FrameFind(loadersBy(t, c), 0, "M")
	if !ok || len(impl.FilePut(c)) != impl.FileMax || impl.FrameMany(got) != 11 || len(got.Pool) != len(c.Pool)+2 {
		t.Fatal(ok, len(impl.FilePut(c)), len(got.Pool)-len(c.Pool))
	}
	checkFound(t, "smaller", loadersBy(t, c), 0, "M", c, got)
	// Without those it had two methods each need an entry, and it is too great by the second one alone.
	c = impl.FrameLess(classOf("class M A 0\nmethod m (LB;)V 1 0 1\n" + lines("go e / e: / give") + "\nmethod n (LC;)V 1 0 1\n" + lines("go e / e: / give") + "\n"))
	needs := len(impl.FilePut(classOf("class M A 0\nmethod m (LB;)V 1 0 1\n"+lines("go e / e: / give / frame e LB; .")+"\nmethod n (LC;)V 1 0 1\n"+lines("go e / e: / give / frame e LC; .")+"\n"))) - len(impl.FilePut(c))
	for spare := range needs + 8 {
		x := copied(c)
		x.Pool = append(x.Pool, fillers(impl.FileMax-spare-len(impl.FilePut(c)))...)
		if got, ok := impl.FrameFind(loadersBy(t, x), 0, "M"); ok != (spare >= needs) || ok != (impl.FrameMany(got) == 2) {
			t.Error(spare-needs, ok)
		}
	}
}

// fillers are entries of so many bytes, that nobody names.
func fillers(bytes int) []impl.Const {
	var out []impl.Const
	for bytes > 0 {
		// A method's type of 4 objects that it takes, and gives back, is the longest text; one of a name is 3 bytes at least.
		many := 4
		text := "(" + strings.Repeat("Labcdefgh;", many) + ")V"
		for len(text)+2 > bytes || bytes-len(text)-2 > 0 && bytes-len(text)-2 < 3 {
			text = text[:len(text)-1]
			if many--; many >= 0 {
				text = "(" + strings.Repeat("Labcdefgh;", many) + ")V"
			} else {
				text = strings.Repeat("q", min(len(text), impl.NameMax))
			}
		}
		out = append(out, impl.Const{Kind: impl.ConstName, Text: text})
		bytes -= len(text) + 2
	}
	return out
}

// wantPool wants of M, whose pool has more behind it, which entries its frames name, and what stands behind all then.
func wantPool(t *testing.T, what string, src string, more string, places string, behind string) {
	t.Helper()
	c := impl.PackOf(impl.FrameLess(classOf(src)))
	c.Pool = append(c.Pool, poolOf(more)...)
	got, ok := impl.FrameFind(loadersBy(t, c), 0, "M")
	if !ok {
		t.Errorf("%s: nothing is found", what)
		return
	}
	var named []int
	for _, m := range got.Methods {
		for _, f := range m.Frames {
			for _, k := range append(slices.Clone(f.Locals), f.Stack...) {
				if k.Tag == impl.TagRef {
					named = append(named, k.Class)
				}
			}
		}
	}
	if words := poolWords(got.Pool[len(c.Pool):]); toldOut(named...) != places || words != behind {
		t.Errorf("%s: %v and %s, wanted %s and %s, of %s", what, named, words, places, behind, poolWords(c.Pool))
	}
	checkFound(t, what, loadersBy(t, c), 0, "M", c, got)
}

// The first entry of a class is named, whoever names it else; one that is not there comes behind all, its name first.
func TestFoundPool(t *testing.T) {
	by := func(desc string, body string) string {
		return "class M A 0\nmethod m " + desc + " 1 4 2\n" + lines(body) + "\n"
	}
	const goes = "go e / e: / give"
	// 'M c1 'A c3 'm 'DESC
	wantPool(t, "its own", by("(LM;LA;)V", goes), "", "2 4", "")
	wantPool(t, "not there", by("(LB;)V", goes), "", "8", "'B c7")
	wantPool(t, "the name is there", by("(LB;)V", goes), "'B", "8", "c7")
	wantPool(t, "the name is there twice", by("(LB;)V", goes), "'z 'B 'B", "10", "c8")
	wantPool(t, "the type is no name", by("(LB;)V", goes), "'LB;", "9", "'B c8")
	wantPool(t, "both are there, named by nobody", by("(LB;)V", goes), "'B c7", "8", "")
	wantPool(t, "twice", by("(LB;)V", goes), "'B c7 c7", "8", "")
	wantPool(t, "twice, by two names", by("(LB;)V", goes), "'B c10 c7 'B", "8", "")
	wantPool(t, "its own twice", by("(LM;)V", goes), "c1 'M c8", "2", "")
	wantPool(t, "two", by("(LB;LC;)V", goes), "", "8 10", "'B c7 'C c9")
	wantPool(t, "two, in the order of places", by("(LC;LB;)V", goes), "'B", "9 10", "'C c8 c7")
	wantPool(t, "one twice", by("(LB;LB;)V", goes), "", "8 8", "'B c7")
	wantPool(t, "in two frames", by("(LB;LC;)V", "go e / e: / go f / f: / give"), "", "8 10 8 10", "'B c7 'C c9")
	wantPool(t, "locals, then the stack", by("(LC;)V", "getall A x LB; / getall A x LF; / go e / e: / give"), "", "15 17 19", "'C c14 'B c16 'F c18")
	wantPool(t, "by the place, not as it is come to", by("(LC;)V", "go f / e: / give / f: / getall A x LB; / refstore 0 / null / ifnull e / give"), "", "12 14", "'B c11 'C c13")
	wantPool(t, "as it is come to at last", by("(LB;)V", "e: / new M / refstore 0 / go e"), "", "4", "")
	wantPool(t, "Obj", by("(LC;)V", "e: / new M / refstore 0 / go e"), "", "8", "'Obj c7")
	wantPool(t, "what cannot be brought", by("(LX;)V", goes), "", "8", "'X c7")
	two := lines("method n (LC;)V 1 0 1 / go e / e: / give") + "\n"
	wantPool(t, "two methods", by("(LB;)V", goes)+two, "", "10 12", "'B c9 'C c11")
	wantPool(t, "two methods, one class", by("(LC;)V", goes)+two, "", "9 9", "'C c8")
	// Another kind of entry, or of another class, is none of it.
	wantPool(t, "a field of it", by("(LB;)V", goes), "'B 'x 'I p8,9", "11", "c7")
}

// Room for two entries, for one, and for none.
func TestFoundPoolFull(t *testing.T) {
	for _, c := range []struct {
		desc  string
		more  string
		needs int
	}{{"(LM;)V", "", 0}, {"(LB;)V", "'B c7", 0}, {"(LB;)V", "'B", 1}, {"(LB;)V", "", 2}, {"(LB;LB;)V", "", 2}, {"(LB;LC;)V", "'C", 3}, {"(LB;LC;)V", "", 4}, {"(LB;LC;LF;)V", "", 6}} {
		for room := range 8 {
			x := classOf("class M A 0\nmethod m " + c.desc + " 1 4 3\n" + lines("go e / e: / give") + "\n")
			x.Pool = append(x.Pool, poolOf(c.more)...)
			for i := 0; len(x.Pool) < impl.PoolMax-room; i++ {
				x.Pool = append(x.Pool, impl.Const{Kind: impl.ConstName, Text: fmt.Sprint("n", i)})
			}
			got, ok := impl.FrameFind(loadersBy(t, x), 0, "M")
			if want, told := framedIn(x); ok != (room >= c.needs) || ok != told || !same(got, want) {
				t.Errorf("%s with %q, room for %d: %v", c.desc, c.more, room, ok)
			}
		}
	}
}

// wantFoundBy wants a class as a loader knows it, and the frames of its first method, as kinds stand in lines; empty, if none can be found.
func wantFoundBy(t *testing.T, what string, list []impl.Loader, loader int, name string, want string) {
	t.Helper()
	c, ok := impl.FrameFind(list, loader, name)
	got := ""
	if ok {
		p := &teller{class: c}
		for _, f := range c.Methods[0].Frames {
			got += fmt.Sprint(" / ", listOf(p.kinds(f.Locals)), " ", listOf(p.kinds(f.Stack)))
		}
		maker := list[impl.PathMaker(list, loader, name)]
		own, _ := impl.FileGet(maker.Files[slices.IndexFunc(maker.Files, func(f impl.File) bool { return f.Name == name })].Text)
		checkFound(t, what, list, loader, name, own, c)
	}
	if got = strings.TrimPrefix(got, " / "); got != want || !ok && !same(c, impl.Class{}) {
		t.Errorf("%s: %s, wanted %s", what, got, want)
	}
}

// Of two classes of another loader it is one that the loader itself is given by its name.
func TestFoundLoaders(t *testing.T) {
	const two = "class Z Obj 0\nclass A Z 0\nclass B A 0\nclass C A 0\nclass D C 0\n"
	both := func(a string, b string) string {
		return "class M Obj 0\nmethod m ()V 1 4 1\n" + lines("new "+a+" / push 1 / ifzero e / pop / new "+b+" / e: / pop / give") + "\n"
	}
	ways := func(names ...string) []impl.Way {
		var out []impl.Way
		for _, name := range names {
			out = append(out, impl.Way{Name: name, To: 1})
		}
		return out
	}
	zero := loaderOf(t, -1, two)
	for _, c := range []struct {
		what string
		own  impl.Loader
		want string
	}{
		{"as its parent", loaderOf(t, 1, both("B", "C")), "- LA;"},
		{"itself", loaderOf(t, 1, both("D", "C")), "- LC;"},
		{"itself, the other way round", loaderOf(t, 1, both("C", "D")), "- LC;"},
		{"it has another one by the name", loaderOf(t, 1, both("B", "C")+"class A Obj 0\n"), "- LZ;"},
		{"it has another one, below the next", loaderOf(t, 1, both("B", "C")+"class A Z 0\n"), "- LZ;"},
		{"it has others by both names", loaderOf(t, 1, both("B", "C")+"class A Obj 0\nclass Z Obj 0\n"), "- LObj;"},
		{"it has a face by the name", loaderOf(t, 1, both("B", "C")+"class A Obj 5\n"), "- LZ;"},
		{"nobody gives it by the name", loaderOf(t, -1, both("B", "C"), ways("B", "C", "Z")...), "- LZ;"},
		{"nobody gives it anything above", loaderOf(t, -1, both("B", "C"), ways("B", "C")...), "- LObj;"},
		{"a way for it", loaderOf(t, -1, both("B", "C"), ways("A", "B", "C")...), "- LA;"},
		{"a way to nobody", loaderOf(t, 1, both("B", "C"), impl.Way{Name: "A", To: 2}), "- LZ;"},
		{"a way to another one", loaderOf(t, 1, both("B", "C"), impl.Way{Name: "A", To: 3}), "- LZ;"},
		{"a way to itself", loaderOf(t, 1, both("B", "C"), impl.Way{Name: "A", To: 0}), "- LZ;"},
		{"its file is none", impl.Loader{Files: append(loaderOf(t, 1, both("B", "C")).Files, impl.File{Name: "A", Text: "no"}), Parent: 1}, "- LZ;"},
		{"its file is of another class", impl.Loader{Files: append(loaderOf(t, 1, both("B", "C")).Files, impl.File{Name: "A", Text: textOf(t, "class Z Obj 0\n")}), Parent: 1}, "- LZ;"},
		{"what is above its own is not there", loaderOf(t, 1, both("B", "C")+"class A X 0\n"), "- LZ;"},
		{"one of them itself is its own", loaderOf(t, 1, both("D", "C")+"class C Obj 0\n"), "- LObj;"},
		{"one of them is its own, below the next", loaderOf(t, 1, both("D", "C")+"class C A 0\n"), "- LA;"},
		{"one cannot be brought", loaderOf(t, -1, both("B", "C"), ways("B")...), ""},
		{"the other cannot be brought", loaderOf(t, -1, both("B", "C"), ways("C")...), ""},
		{"one is what it is below, by another loader", loaderOf(t, 1, both("A", "B")+"class A Obj 0\n"), "- LObj;"},
	} {
		if strings.HasPrefix(c.what, "a way to another one") {
			wantFoundBy(t, c.what, []impl.Loader{loaderOf(t, 1, both("B", "C"), impl.Way{Name: "A", To: 2}), zero, loaderOf(t, -1, "class A Obj 0\n")}, 0, "M", c.want)
			continue
		}
		wantFoundBy(t, c.what, []impl.Loader{c.own, zero, {Parent: -1}}, 0, "M", c.want)
	}
	// Whoever asks for the class, it is its own loader that is asked for others.
	list := []impl.Loader{loaderOf(t, 1, both("B", "C")+"class A Obj 0\n"), zero, {Parent: 0}}
	wantFoundBy(t, "another one asks", list, 2, "M", "- LZ;")
	wantFoundBy(t, "who does not know it", list, 1, "M", "")
	list = []impl.Loader{{Parent: 1, Ways: ways("M")}, loaderOf(t, -1, two+"")}
	list[1].Files = append(list[1].Files[:4:4], fileOf(t, both("B", "C")))
	list[0].Files = []impl.File{fileOf(t, "class A Obj 0\n"), fileOf(t, "class M Obj 0\nmethod m ()V 1 0 0\ngo e\ne:\ngive\n")}
	wantFoundBy(t, "a way ahead of a file", list, 0, "M", "- LA;")
}

// What a loader was given by a name it means from then on: another one that its bonds ask for cannot be brought any more.
func TestFoundBound(t *testing.T) {
	const above = "class A Obj 0\nclass E A 0\nclass D E 0\nclass S Obj 0\n"
	one := loaderOf(t, -1, "class Z Obj 0\nclass A Z 0\nclass B A 0\nclass C A 0\n")
	two := loaderOf(t, -1, above+does("f", "(LA;)V", 0))
	way := func(name string) impl.Way { return impl.Way{Name: name, To: 2} }
	const merges, brings = "new B / push 1 / ifzero e / pop / new C / e: / pop", "new D / get E x I / pop"
	for _, c := range []struct{ super, body, want string }{
		{"Obj", merges + " / " + brings, "- LA;"},
		{"S", merges, "- LA;"},
		{"S", merges + " / " + brings, ""},
		{"S", brings + " / " + merges, "- LZ;"},
	} {
		src := "class M " + c.super + " 0\nmethod m ()V 1 4 1\n" + lines(c.body+" / give") + "\n"
		if c.super == "S" {
			src += does("f", "(LA;)V", 0)
		}
		wantFoundBy(t, c.super+" "+c.body, []impl.Loader{loaderOf(t, 1, src, way("D"), way("E"), way("S")), one, two}, 0, "M", c.want)
	}
}

// Faces that both have are above neither: it goes by what a class is made of.
func TestFoundFaces(t *testing.T) {
	const src = "class F Obj 5\nclass G Obj 5\nface F\nclass B Obj 0\nface F\nclass C Obj 0\nface F\n"
	for _, c := range []struct{ a, b, want string }{
		{"B", "C", "LObj;"}, {"B", "F", "LObj;"}, {"F", "B", "LObj;"}, {"F", "G", "LObj;"}, {"G", "F", "LObj;"}, {"F", "F", "LF;"}, {"G", "G", "LG;"}, {"G", "Obj", "LObj;"}, {"G", "Err", "LObj;"}, {"M", "F", "LObj;"},
	} {
		body := lines("getall M x L" + c.a + "; / push 1 / ifzero e / pop / getall M x L" + c.b + "; / e: / pop / give")
		list := []impl.Loader{loaderOf(t, 1, "class M Obj 0\nface F\nmethod m ()V 1 4 1\n"+body+"\n"), loaderOf(t, -1, src)}
		wantFoundBy(t, c.a+" and "+c.b, list, 0, "M", "- "+c.want)
	}
	// One above that has it too is above both.
	list := []impl.Loader{loaderOf(t, 1, "class M Obj 0\nmethod m ()V 1 4 0\n"+lines("new B / push 1 / ifzero e / pop / new C / e: / face F f ()V / give")+"\n"), loaderOf(t, -1, "class F Obj 5\nclass A Obj 0\nface F\nclass B A 0\nface F\nclass C A 0\nface F\n")}
	wantFoundBy(t, "above both", list, 0, "M", ". LA;")
}

// The loaders need be ok, the loader one, the name one, but `Obj` and `Err`.
func TestFoundNotOk(t *testing.T) {
	src := foundBy("push 1 / ifzero e / e: / give / frame e -,-,- .")
	good := func() []impl.Loader { return proofWorld(t, src).Loaders }
	wantFoundBy(t, "fine", good(), 0, "M", "-,-,- .")
	lost := func(what string, list []impl.Loader, loader int, name string) {
		t.Helper()
		if got, ok := impl.FrameFind(list, loader, name); ok || !same(got, impl.Class{}) {
			t.Errorf("%s: %s", what, linesOrNone(got))
		}
	}
	for _, loader := range []int{-1, -2, 2, 3, math.MinInt, math.MaxInt} {
		lost(fmt.Sprint("loader ", loader), good(), loader, "M")
	}
	lost("who does not know it", good(), 1, "M")
	for _, name := range append(notAsked(), "X", "Q") {
		lost(fmt.Sprintf("%.9q", name), good(), 0, name)
	}
	m := fileOf(t, src)
	for _, f := range loaderFaults {
		list := soundLoaders(t)
		list[0].Files[1], list[0].Files[4] = m, fileOf(t, srcA)
		wantFoundBy(t, "sound loaders", list, 0, "M", "-,-,- .")
		list = f.turn(list)
		for loader := range list {
			lost(f.name, list, loader, "M")
		}
	}
}

// A class that cannot be brought, or laid out; a proof of what is above it is not asked for.
func TestFoundFaults(t *testing.T) {
	find := "method m ()V 1 1 1\ngo e\ne:\ngive\n"
	by := func(src string) impl.Loader { return loaderOf(t, -1, src) }
	some := func(what string, list ...impl.Loader) { t.Helper(); wantFoundBy(t, what, list, 0, "M", "- .") }
	none := func(what string, list ...impl.Loader) { t.Helper(); wantFoundBy(t, what, list, 0, "M", "") }
	some("fine", by("class M Obj 0\n"+find))
	none("what is above it is not there", by("class M X 0\n"+find))
	none("a face is not there", by("class M Obj 0\nface F\n"+find))
	none("what is above it is a face", by("class M F 0\n"+find+"class F Obj 5\n"))
	none("what is above it is final", by("class M A 0\n"+find+"class A Obj 2\n"))
	none("a face that is none", by("class M Obj 0\nface A\n"+find+srcA))
	none("round", by("class M A 0\n"+find+"class A M 0\n"))
	none("its own parent", impl.Loader{})
	none("a file that is none", impl.Loader{Parent: -1, Files: []impl.File{{Name: "M", Text: textOf(t, "class M Obj 0\n"+find) + "x"}}})
	none("a file of another class", impl.Loader{Parent: -1, Files: []impl.File{{Name: "M", Text: textOf(t, "class N Obj 0\n"+find)}}})
	bad := classOf("class M Obj 0\n" + find)
	for what, turn := range map[string]func(c *impl.Class){
		"a frame at no op":        func(c *impl.Class) { c.Methods[0].Frames = []impl.Frame{{At: 1, Locals: make([]impl.Kind, 1)}} },
		"a frame behind the last": func(c *impl.Class) { c.Methods[0].Frames = []impl.Frame{{At: 4, Locals: make([]impl.Kind, 1)}} },
		"a frame of no places":    func(c *impl.Class) { c.Methods[0].Frames = []impl.Frame{{At: 3}} },
		"a frame of a class that is none": func(c *impl.Class) {
			c.Methods[0].Frames = []impl.Frame{{At: 3, Locals: []impl.Kind{{Tag: impl.TagRef, Class: 1}}}}
		},
		"flags that are none": func(c *impl.Class) { c.Flags = 8 },
	} {
		c := copied(bad)
		turn(&c)
		text := impl.FilePut(c)
		if text == "" || impl.ClassCheck(c) == impl.FormFine {
			t.Fatal(what)
		}
		none(what, impl.Loader{Parent: -1, Files: []impl.File{{Name: "M", Text: text}}})
	}
	most := chain(t, 10)
	most[0].Files = []impl.File{fileOf(t, "class M N10 0\n"+find)}
	none("one class too many", most...)
	most[0].Files = []impl.File{fileOf(t, "class M N9 0\n"+find)}
	some("as many classes as may be", most...)
	none("final above", by("class M A 0\n"+find+does("f", "()V", 0)+"class A Obj 0\n"+does("f", "()V", impl.MemFinal)))
	none("final above one above", by("class M A 0\n"+find+"class A B 0\n"+does("f", "()V", 0)+"class B Obj 0\n"+does("f", "()V", impl.MemFinal)))
	two := "class X Obj 0\nclass A X 0\n" + does("f", "(LX;)V", 0)
	none("two classes by one name", loaderOf(t, 1, "class X Obj 5\nclass M A 0\nface X\n"+find+does("f", "(LX;)V", 0)), by(two))
	some("two that are one", loaderOf(t, 1, "class M A 0\n"+find+does("f", "(LX;)V", 0)), by(two))
	unproved := "method n ()V 1 1 1\npop\ngive\n"
	none("another method cannot be proved", by("class M Obj 0\n"+find+unproved))
	some("what is above it cannot be proved", by("class M A 0\n"+find+"class A Obj 0\n"+unproved))
	some("what it makes cannot be proved", by("class M Obj 0\n"+find+"method n ()V 1 1 1\nnew A\npop\ngive\nclass A Obj 0\n"+unproved))
}

// By one more bond than may be a class cannot be linked, whatever its frames are.
func TestFoundBonds(t *testing.T) {
	types := func(from int) string {
		out := ""
		for i := range impl.ParamMax {
			out += fmt.Sprint("LN", from+i, ";")
		}
		return out
	}
	methods := func(from int, many int, last string) string {
		out := ""
		for i := range many {
			out += fmt.Sprint("method f", from+i, " (", types(5*(from+i)), ")LN", 5*(from+i)+4, "; 0 1 5\nnull\ngiveref\n")
		}
		return out + last
	}
	find := "method m ()V 1 1 0\ngo e\ne:\ngive\nframe e . .\n"
	for last, want := range map[string]string{"": ". .", does("q", "(LQ;)V", 0): ""} {
		zero := loaderOf(t, -1, "class A Obj 0\n"+methods(0, 6, "")+"class B A 0\n"+methods(6, 2, does("q", "(LQ;)V", 0)))
		list := []impl.Loader{loaderOf(t, 1, "class C B 0\n"+methods(0, 6, "")+"class M C 0\n"+find+methods(6, 2, last)), zero}
		wantFoundBy(t, "bonds", list, 0, "M", want)
		w, class := load(t, impl.WorldNew(list), 0, "M")
		w = linked(t, w, w.Classes[class].Super)
		x, fault := impl.WorldLink(w, class)
		if want == "" && fault.Code != impl.FaultFull || want != "" && (fault.Code != impl.FaultFine || len(x.Bonds) != impl.BondMax) {
			t.Error(fault, len(x.Bonds))
		}
	}
}

// Frames are gone, and nothing else; all that they tell of is counted.
func TestFrameLessAndMany(t *testing.T) {
	for _, c := range []struct {
		src  string
		want int
	}{
		{"class A Obj 0\n", 0}, {"class A Obj 4\n" + asks("f", "()V"), 0}, {"class A Obj 0\nmethod f ()V 1 0 0\ngive\n", 0},
		{"class A Obj 0\nmethod f ()V 1 0 0\ngive\nframe 0 . .\n", 0},
		{"class A Obj 0\nmethod f ()V 1 0 3\ngive\nframe 0 -,I,N .\n", 3},
		{"class A Obj 0\nmethod f ()V 1 2 1\ngive\nframe 0 LQ; I,N\n", 3},
		{"class A Obj 0\nmethod f ()V 1 2 0\ngive\ngive\nframe 0 . I,N\nframe 1 . .\n", 2},
		{"class A Obj 0\nmethod f ()V 1 8 8\ngive\ngive\nframe 0 -,-,-,-,-,-,-,- -,-,-,-,-,-,-,-\nframe 1 -,-,-,-,-,-,-,- .\n", 24},
		{"class A Obj 0\nmethod f ()V 1 2 1\ngive\nframe 0 LQ; I\nmethod g ()V 1 2 1\ngive\nmethod h ()V 0 2 2\ngive\nframe 0 LA;,LQ; .\ntrap 0 1 0 R\n", 4},
	} {
		class := classOf(c.src)
		if got := impl.FrameMany(class); got != c.want {
			t.Errorf("%d, wanted %d, of\n%s", got, c.want, c.src)
		}
		less := impl.FrameLess(class)
		checkLess(t, c.src, class, less)
		if !same(less.Pool, class.Pool) {
			t.Error("entries that nobody names any more stay", poolWords(less.Pool))
		}
	}
	// As many frames of as many places as may be.
	body := strings.Repeat("nop\n", impl.FrameMax) + "give\n"
	for i := range impl.FrameMax {
		body += fmt.Sprint("frame ", i, " -,-,-,-,-,-,-,- I,I,I,I,I,I,I,I\n")
	}
	if got := impl.FrameMany(classOf("class A Obj 0\nmethod f ()V 1 8 8\n" + body)); got != 16*impl.FrameMax {
		t.Error(got)
	}
}

// A class with something wrong has no frames, and is nothing without them.
func TestFramesNotOk(t *testing.T) {
	none := func(what string, c impl.Class) {
		t.Helper()
		if got, many := impl.FrameLess(c), impl.FrameMany(c); !same(got, impl.Class{}) || many != 0 {
			t.Error(what, many)
		}
	}
	none("nothing", impl.Class{})
	for _, faults := range []struct {
		sound func() impl.Class
		list  []formFault
	}{{soundClass, classFaults()}, {soundFace, faceFaults()}} {
		checkLess(t, "sound", faults.sound(), impl.FrameLess(faults.sound()))
		for _, f := range faults.list {
			c := faults.sound()
			f.turn(&c)
			if f.want != impl.FormFine {
				none(f.name, c)
			} else {
				checkLess(t, f.name, c, impl.FrameLess(c))
			}
		}
	}
	if impl.FrameMany(soundClass()) != 8 {
		t.Error(impl.FrameMany(soundClass()))
	}
	for seed := range 1500 {
		c := anyClass(newDice(seed))
		if impl.ClassCheck(c) != impl.FormFine {
			none(fmt.Sprint("seed ", seed), c)
		} else {
			checkLess(t, fmt.Sprint("seed ", seed), c, impl.FrameLess(c))
		}
	}
}
