package tests

import (
	"fmt"
	"reflect"
	"strings"
	"testing"

	"loop.example/stowage/impl"
)

// copied is a class in memory of its own.
func copied(c impl.Class) impl.Class {
	return roomy(reflect.ValueOf(c)).Interface().(impl.Class)
}

// renumbered is a class with another pool, where all that named an entry names the one at its new place.
func renumbered(c impl.Class, pool []impl.Const, to func(place int) int) impl.Class {
	c = copied(c)
	turn := func(places ...*int) {
		for _, p := range places {
			if *p > 0 {
				*p = to(*p)
			}
		}
	}
	c.Pool = append([]impl.Const{}, pool...)
	for i := range c.Pool {
		turn(&c.Pool[i].A, &c.Pool[i].B)
	}
	turn(&c.Name, &c.Super)
	for i := range c.Faces {
		turn(&c.Faces[i])
	}
	for i := range c.Fields {
		turn(&c.Fields[i].Name, &c.Fields[i].Type)
	}
	for i := range c.Methods {
		m := &c.Methods[i]
		turn(&m.Name, &m.Desc)
		ops, _ := impl.OpsGet(m.Code)
		for k := range ops {
			if ops[k].Op >= impl.OpNew && ops[k].Op <= impl.OpIs {
				turn(&ops[k].Num)
			}
		}
		m.Code = impl.OpsPut(ops)
		for k := range m.Traps {
			turn(&m.Traps[k].Class)
		}
		for k := range m.Frames {
			for _, kinds := range [][]impl.Kind{m.Frames[k].Locals, m.Frames[k].Stack} {
				for n := range kinds {
					turn(&kinds[n].Class)
				}
			}
		}
	}
	return c
}

// poolClasses are classes that lines make, with entries of all kinds.
func poolClasses() []impl.Class {
	rich := "class A B 0\nface F\nfield x LQ; 0\nmethod f (LA;)I 0 2 3\n  new Q\n  get Q x LQ;\n  face F f (LA;)I\n  virtual A f (LA;)I\n  static Q g ()V\n  is F\n  nop\ntrap 0 3 18 Err\nframe 18 LR;,I,LQ; LErr;\n"
	return []impl.Class{fullOfLines(), classOf(rich), classOf("class A Obj 0\n"), classOf(opLines("new Q", "putall R n I"))}
}

// A pool with an entry that nobody names is not as lines make it.
func TestLinesUnnamedEntry(t *testing.T) {
	for _, c := range poolClasses() {
		entries := []impl.Const{{Kind: impl.ConstName, Text: "zz"}, {Kind: impl.ConstName, Text: "I"}, {Kind: impl.ConstName, Text: "(I)LZ;"}, {Kind: impl.ConstClass, A: c.Pool[c.Name-1].A}}
		if impl.AsmPut(c) != linesOf(c) {
			t.Fatal(impl.AsmPut(c))
		}
		for at := range len(c.Pool) + 1 {
			for _, e := range entries {
				pool := append(append(append([]impl.Const{}, c.Pool[:at]...), e), c.Pool[at:]...)
				x := renumbered(c, pool, func(place int) int {
					if place > at {
						return place + 1
					}
					return place
				})
				wantUnwritten(t, fmt.Sprint("an entry at ", at), x)
			}
		}
	}
}

// A pool in which an entry stands twice is not as lines make it, whoever names which.
func TestLinesEntryTwice(t *testing.T) {
	for _, c := range poolClasses() {
		for at, e := range c.Pool {
			pool := append(append([]impl.Const{}, c.Pool...), e)
			wantUnwritten(t, fmt.Sprint("twice, nobody names the second: ", at), renumbered(c, pool, func(place int) int { return place }))
			turned := renumbered(c, pool, func(place int) int {
				if place == at+1 {
					return len(pool)
				}
				return place
			})
			wantUnwritten(t, fmt.Sprint("twice, all name the second: ", at), turned)
			many := 0
			half := renumbered(c, pool, func(place int) int {
				if place != at+1 {
					return place
				}
				many++
				return []int{place, len(pool)}[many%2]
			})
			wantUnwritten(t, fmt.Sprint("twice, some name the second: ", at), half)
		}
	}
}

// A pool in another order is not as lines make it.
func TestLinesOtherOrder(t *testing.T) {
	for _, c := range poolClasses() {
		for i := range c.Pool {
			for k := range i {
				pool := append([]impl.Const{}, c.Pool...)
				pool[i], pool[k] = pool[k], pool[i]
				x := renumbered(c, pool, func(place int) int {
					switch place {
					case i + 1:
						return k + 1
					case k + 1:
						return i + 1
					}
					return place
				})
				wantUnwritten(t, fmt.Sprint("turned: ", k, " and ", i), x)
				if linesOf(x) != linesOf(c) {
					t.Fatal("it says something else")
				}
			}
		}
	}
}

// notFine are lines of classes in which something is wrong, by its code.
var notFine = []struct {
	code int
	text string
}{
	{impl.FormFile, "class A Obj 256\n"}, {impl.FormFile, "class A Obj -1\n"}, {impl.FormFile, "class A Obj 0\nface F\nface G\nface H\nface I\n"},
	{impl.FormFile, "class A Obj 0\nmethod f ()V 1 256 0\n  nop\n"}, {impl.FormFile, "class A Obj 0\nmethod f ()V 1 0 0\n  nop\ntrap -1 1 0 -\n"},
	{impl.FormPool, "class 1A Obj 0\n"}, {impl.FormPool, "class A O_ 0\n"}, {impl.FormPool, "class A Obj 0\nface F.\n"}, {impl.FormPool, "class A Obj 0\nfield x x; 0\n"}, {impl.FormPool, "class A Obj 0\nmethod f ( 1 0 0\n  nop\n"},
	{impl.FormPool, "class A Obj 0\nmethod f ()V 1 0 0\n  new I;\n"}, {impl.FormPool, "class A Obj 0\nmethod f ()V 1 0 0\n  get A 1 I\n"}, {impl.FormPool, "class A Obj 0\nmethod f ()V 1 0 0\n  get A n V\n"}, {impl.FormPool, "class A Obj 0\nmethod f ()V 1 0 0\n  static A n I\n"},
	{impl.FormHead, "class A A 0\n"}, {impl.FormHead, "class A Obj 0\nface F\nface F\n"}, {impl.FormHead, "class A Obj 1\n"}, {impl.FormHead, "class A Obj 3\n"}, {impl.FormHead, "class A Obj 6\n"}, {impl.FormHead, "class A Obj 7\n"}, {impl.FormHead, "class A Obj 8\n"}, {impl.FormHead, "class A B 5\n"},
	{impl.FormField, "class A Obj 0\nfield x V 0\n"}, {impl.FormField, "class A Obj 0\nfield x I 4\n"}, {impl.FormField, "class A Obj 0\nfield x I 0\nfield x LA; 0\n"}, {impl.FormField, "class A Obj 0\nfield x ()V 0\n"}, {impl.FormField, "class A Obj 0\nfield ()V I 0\n"}, {impl.FormField, "class A Obj 5\nfield x I 0\n"},
	{impl.FormMethod, "class A Obj 0\nmethod f ()V 8\n"}, {impl.FormMethod, "class A Obj 4\nmethod f ()V 9\n"}, {impl.FormMethod, "class A Obj 4\nmethod f I 8\n"}, {impl.FormMethod, "class A Obj 4\nmethod ()V ()V 8\n"}, {impl.FormMethod, "class A Obj 0\nmethod begin ()V 0 1 1\n  nop\n"},
	{impl.FormMethod, "class A Obj 4\nmethod f ()V 8\nmethod f ()V 8\n"}, {impl.FormMethod, "class A Obj 5\nmethod f ()V 0 1 1\n  nop\n"}, {impl.FormMethod, "class A Obj 0\nmethod f ()V 16 1 1\n  nop\n"},
	{impl.FormCode, "class A Obj 0\nmethod f ()V 1 0 0\n"}, {impl.FormCode, "class A Obj 0\nmethod f ()V 1 9 0\n  nop\n"}, {impl.FormCode, "class A Obj 0\nmethod f ()V 1 0 9\n  nop\n"}, {impl.FormCode, "class A Obj 0\nmethod f ()V 0 0 0\n  nop\n"}, {impl.FormCode, "class A Obj 0\nmethod f (I)V 1 0 0\n  nop\n"},
	{impl.FormCode, "class A Obj 0\nmethod f ()V 1 0 0\n  load 0\n"}, {impl.FormCode, "class A Obj 0\nmethod f ()V 1 0 0\n  go 1\n"}, {impl.FormCode, "class A Obj 0\nmethod f ()V 1 0 0\n  nop\ntrap 0 0 0 -\n"}, {impl.FormCode, "class A Obj 0\nmethod f ()V 1 0 0\n  nop\ntrap 0 2 0 -\n"}, {impl.FormCode, "class A Obj 0\nmethod f ()V 1 0 0\n  nop\ntrap 0 1 1 -\n"},
	{impl.FormCode, "class A Obj 0\nmethod f ()V 1 0 0\n  nop\nframe 1 . .\n"}, {impl.FormCode, "class A Obj 0\nmethod f ()V 1 0 0\n  nop\nframe 0 I .\n"}, {impl.FormCode, "class A Obj 0\nmethod f ()V 1 0 0\n  nop\nframe 0 . I\n"},
}

// Of a class with which something is wrong there are no lines, and such lines are no class.
func TestLinesNotFine(t *testing.T) {
	for _, c := range notFine {
		x := classOf(c.text)
		if code := impl.ClassCheck(x); code != c.code {
			t.Errorf("%q: ClassCheck is %d, wanted %d", c.text, code, c.code)
		}
		if s := impl.AsmPut(x); s != "" {
			t.Errorf("written as %q", s)
		}
		wantNoLines(t, "not fine", c.text)
	}
	for _, f := range classFaults() {
		c := soundClass()
		f.turn(&c)
		if s := impl.AsmPut(c); s != "" {
			t.Errorf("%s: written as %q", f.name, s)
		}
	}
	if s := impl.AsmPut(impl.Class{}); s != "" {
		t.Error(s)
	}
	// One number of a class that is not as it was: it is another class, or none.
	for at, place := range numbersOf(fullOfLines()) {
		for _, n := range append([]int{2, 3, 4, 5, 6, 7, 9, 10, 14}, oddNumbers...) {
			c := fullOfLines()
			place(&c).SetInt(int64(n))
			wantTold(t, fmt.Sprint("number ", at, " being ", n), c)
		}
	}
}

// wantTold holds AsmPut of a class against a second telling: its lines, just if it is fine, and they make it.
func wantTold(t *testing.T, what string, c impl.Class) {
	t.Helper()
	got, want := impl.AsmPut(c), ""
	if formOf(c) == impl.FormFine {
		if text := linesOf(c); len(text) <= impl.AsmMax && same(classOf(text), c) {
			want = text
		}
	}
	if got != want {
		t.Fatalf("%s: %q, wanted %q", what, got, want)
	}
}

// limitLines are lines with n of something.
var limitLines = []struct {
	name string
	most int
	text func(n int) string
}{
	{"a name's bytes", impl.NameMax, func(n int) string { return "class A" + strings.Repeat("z", n-1) + " Obj 0\n" }},
	{"a type's bytes", impl.NameMax, func(n int) string { return "class A Obj 0\nfield x LA" + strings.Repeat("z", n-1) + "; 0\n" }},
	{"what a method takes", impl.ParamMax, func(n int) string { return "class A Obj 4\nmethod f (" + strings.Repeat("I", n) + ")V 8\n" }},
	{"faces", impl.FaceMax, func(n int) string { return "class A Obj 0\n" + counted("face F%d\n", n) }},
	{"fields", impl.FieldMax, func(n int) string { return "class A Obj 0\n" + counted("field f%d I 0\n", n) }},
	{"methods", impl.MethodMax, func(n int) string { return "class A Obj 4\n" + counted("method f%d ()V 8\n", n) }},
	{"bytes of code", impl.CodeMax, func(n int) string { return opLines(strings.Fields(strings.Repeat("nop ", n))...) }},
	{"traps", impl.TrapMax, func(n int) string { return opLines("nop") + strings.Repeat("trap 0 1 0 -\n", n) }},
	{"frames", impl.FrameMax, func(n int) string {
		return opLines(strings.Fields(strings.Repeat("nop ", 12))...) + counted("frame %d -,-,-,-,-,-,-,- .\n", n)
	}},
	{"values", impl.SlotMax, func(n int) string { return fmt.Sprint("class A Obj 0\nmethod f ()V 1 ", n, " 0\n  nop\n") }},
	{"locals", impl.SlotMax, func(n int) string { return fmt.Sprint("class A Obj 0\nmethod f ()V 1 0 ", n, "\n  nop\n") }},
	{"values of a frame", impl.SlotMax, func(n int) string {
		return "class A Obj 0\nmethod f ()V 1 8 0\n  nop\nframe 0 . I" + strings.Repeat(",I", n-1) + "\n"
	}},
	{"locals of a frame", impl.SlotMax, func(n int) string {
		return fmt.Sprint("class A Obj 0\nmethod f ()V 1 0 ", n, "\n  nop\nframe 0 I", strings.Repeat(",I", n-1), " .\n")
	}},
	{"entries", impl.PoolMax, poolLines},
	{"bytes", impl.FileMax, fileLines},
	{"bytes of lines", impl.AsmMax, longLines},
}

// counted is a line n times, its number being put in.
func counted(line string, n int) string {
	out := ""
	for i := range n {
		out += fmt.Sprintf(line, i)
	}
	return out
}

// poolLines makes a pool of n entries: 6 of the class and its method, 2 of each OpNew, one of a field that is of a name that is there.
func poolLines(n int) string {
	head := "class A Obj 0\n"
	if n%2 == 1 {
		head += "field A I 0\n"
	}
	return head + "method f ()V 1 0 0\n" + counted("  new Q%d\n", (n-6)/2)
}

// fileLines makes a class of n bytes, in few bytes of lines: frames, and ops to fill up.
func fileLines(n int) string {
	out := "class A Obj 0\n"
	for i := range 5 {
		out += fmt.Sprint("method f", i, " ()V 1 8 8\n") + strings.Repeat("  nop\n", 8)
		for at := range 7 {
			out += fmt.Sprint("frame ", at, " -,-,-,-,-,-,-,- -,-,-,-,-,-,-,-\n")
		}
	}
	out += "method g ()V 1 1 1\n"
	return out + strings.Repeat("  nop\n", n-len(bytesOf(classOf(out))))
}

// longLines are n bytes: ops with long entries, filled up by short ones and by the name of a field.
func longLines(n int) string {
	const long, short = "  virtual Abcdefgh abcdefgh (LAbcdefgh;LAbcdefgh;LAbcdefgh;LAbcdefgh;)V\n", "  nop\n"
	for size := 1; ; size++ {
		text := "class A Obj 0\nfield " + strings.Repeat("x", size) + " I 0\nmethod f ()V 1 0 0\n"
		text += strings.Repeat(long, (n-len(text))/len(long))
		if rest := n - len(text); rest%len(short) == 0 {
			return text + strings.Repeat(short, rest/len(short))
		}
	}
}

// Each limit may be met exactly; one more is no class.
func TestLinesLimits(t *testing.T) {
	for _, c := range limitLines {
		for _, n := range []int{c.most - 1, c.most} {
			x := wantLines(t, c.name, c.text(n))
			if c.name == "entries" && len(x.Pool) != n || c.name == "bytes" && len(impl.FilePut(x)) != n || c.name == "bytes of lines" && len(impl.AsmPut(x)) != n {
				t.Errorf("%s: not %d", c.name, n)
			}
		}
		for _, n := range []int{c.most + 1, c.most + 2} {
			wantNoLines(t, c.name, c.text(n))
			x := classOf(c.text(n))
			if isLines := c.name == "bytes of lines"; isLines != (impl.ClassCheck(x) == impl.FormFine) {
				t.Errorf("%s: ClassCheck is %d", c.name, impl.ClassCheck(x))
			}
			if s := impl.AsmPut(x); s != "" {
				t.Errorf("%s: written as %q", c.name, s)
			}
		}
	}
}
