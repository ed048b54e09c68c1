package tests

import (
	"fmt"
	"slices"
	"strconv"
	"strings"
	"testing"

	"loop.example/stowage/impl"
)

// fullLines is a class with each kind of line.
const fullLines = "class B A 4\nface F\nface G\nfield x I 0\nfield y LB; 3\n" +
	"method get (ILB;)I 2 3 4\n  refload 0\n  get B x I\n  load 1\n  ifzero 14\n  pop\n  push -3\n  giveint\n  nop\n" +
	"trap 0 5 14 Err\ntrap 2 16 0 -\nframe 0 LB;,I,N,- .\nframe 14 -,-,-,- I,N,LQ;\n" +
	"method go ()V 8\nmethod s ()V 1 0 0\n  give\n"

// fullOfLines is that class.
func fullOfLines() impl.Class {
	text := func(s string) impl.Const { return impl.Const{Kind: impl.ConstName, Text: s} }
	class := func(a int) impl.Const { return impl.Const{Kind: impl.ConstClass, A: a} }
	return impl.Class{
		Pool: []impl.Const{
			text("B"), class(1), text("A"), class(3), text("F"), class(5), text("G"), class(7),
			text("x"), text("I"), text("y"), text("LB;"), text("get"), text("(ILB;)I"),
			{Kind: impl.ConstPair, A: 9, B: 10}, {Kind: impl.ConstField, A: 2, B: 15},
			text("Err"), class(17), text("Q"), class(19), text("go"), text("()V"), text("s"),
		},
		Flags:  impl.FlagAbstract,
		Name:   2,
		Super:  4,
		Faces:  []int{6, 8},
		Fields: []impl.Field{{Name: 9, Type: 10}, {Name: 11, Type: 12, Flags: 3}},
		Methods: []impl.Method{
			{
				Flags: 2, Name: 13, Desc: 14, Deep: 3, Locals: 4,
				Code:  "\x05\x00\x14\x00\x10\x03\x01\x0e\x00\x0e\x07\x01\xff\xfd\x1e\x00",
				Traps: []impl.Trap{{From: 0, To: 5, At: 14, Class: 18}, {From: 2, To: 16}},
				Frames: []impl.Frame{
					{Locals: []impl.Kind{{Tag: impl.TagRef, Class: 2}, {Tag: impl.TagInt}, {Tag: impl.TagNull}, {}}},
					{At: 14, Locals: make([]impl.Kind, 4), Stack: []impl.Kind{{Tag: impl.TagInt}, {Tag: impl.TagNull}, {Tag: impl.TagRef, Class: 20}}},
				},
			},
			{Flags: impl.MemAbstract, Name: 21, Desc: 22},
			{Flags: impl.MemStatic, Name: 23, Desc: 22, Code: "\x20"},
		},
	}
}

// linesOf tells a class by lines a second time, without a look at anything.
func linesOf(c impl.Class) string {
	var b strings.Builder
	name := func(place int) string { return c.Pool[place-1].Text }
	class := func(place int) string { return name(c.Pool[place-1].A) }
	kinds := func(list []impl.Kind) string {
		out := ""
		for _, k := range list {
			out += "," + []string{"-", "I", "N", "L"}[k.Tag]
			if k.Tag == impl.TagRef {
				out += class(k.Class) + ";"
			}
		}
		return strings.TrimPrefix(out+".", ",")[:max(1, len(out)-1)]
	}
	fmt.Fprintln(&b, "class", class(c.Name), class(c.Super), c.Flags)
	for _, f := range c.Faces {
		fmt.Fprintln(&b, "face", class(f))
	}
	for _, f := range c.Fields {
		fmt.Fprintln(&b, "field", name(f.Name), name(f.Type), f.Flags)
	}
	for _, m := range c.Methods {
		fmt.Fprint(&b, "method ", name(m.Name), " ", name(m.Desc), " ", m.Flags)
		if m.Flags < impl.MemAbstract {
			fmt.Fprint(&b, " ", m.Deep, " ", m.Locals)
		}
		fmt.Fprintln(&b)
		ops, _ := impl.OpsGet(m.Code)
		for _, in := range ops {
			fmt.Fprint(&b, "  ", opWords[in.Op])
			switch {
			case in.Op == impl.OpNew || in.Op == impl.OpCast || in.Op == impl.OpIs:
				fmt.Fprint(&b, " ", class(in.Num))
			case in.Op >= impl.OpGet && in.Op <= impl.OpFace:
				e := c.Pool[in.Num-1]
				pair := c.Pool[e.B-1]
				fmt.Fprint(&b, " ", class(e.A), " ", name(pair.A), " ", name(pair.B))
			case behind(in.Op) > 0:
				fmt.Fprint(&b, " ", in.Num)
			}
			fmt.Fprintln(&b)
		}
		for _, t := range m.Traps {
			of := "-"
			if t.Class > 0 {
				of = class(t.Class)
			}
			fmt.Fprintln(&b, "trap", t.From, t.To, t.At, of)
		}
		for _, f := range m.Frames {
			fmt.Fprintln(&b, "frame", f.At, kinds(f.Locals), kinds(f.Stack))
		}
	}
	return b.String()
}

// wantLines wants lines to be read, as a second telling reads them, and written just so.
func wantLines(t *testing.T, what string, text string) impl.Class {
	t.Helper()
	c, ok := impl.AsmGet(text)
	if !ok {
		t.Fatalf("%s: not read:\n%s", what, text)
	}
	if want := classOf(text); !same(c, want) {
		t.Errorf("%s: %+v, wanted %+v, of\n%s", what, c, want, text)
	}
	if got := impl.AsmPut(c); got != text {
		t.Errorf("%s: written as %q, not %q", what, got, text)
	}
	if code := impl.ClassCheck(c); code != impl.FormFine {
		t.Errorf("%s: ClassCheck is %d", what, code)
	}
	if x, ok := impl.FileGet(impl.FilePut(c)); !ok || !same(x, c) {
		t.Errorf("%s: its bytes are not it", what)
	}
	return c
}

func wantNoLines(t *testing.T, what string, text string) {
	t.Helper()
	if c, ok := impl.AsmGet(text); ok || !same(c, impl.Class{}) {
		t.Errorf("%s: read %v, %+v, of\n%s", what, ok, c, text)
	}
}

// wantUnwritten wants a class that is fine, but that no lines make.
func wantUnwritten(t *testing.T, what string, c impl.Class) {
	t.Helper()
	if code := impl.ClassCheck(c); code != impl.FormFine {
		t.Fatalf("%s: ClassCheck is %d", what, code)
	}
	if s := impl.AsmPut(c); s != "" {
		t.Errorf("%s: written as\n%s", what, s)
	}
}

func TestLinesFull(t *testing.T) {
	c := wantLines(t, "all kinds of lines", fullLines)
	if want := fullOfLines(); !same(c, want) {
		t.Errorf("%+v, wanted %+v", c, want)
	}
	if s := impl.AsmPut(fullOfLines()); s != fullLines {
		t.Error(s)
	}
}

// Each kind of line, written just so.
func TestLinesEachKind(t *testing.T) {
	for _, s := range []string{
		"class A Obj 0\n", "class A Obj 2\n", "class A Obj 4\n", "class A Obj 5\n", "class Obj Err 0\n", "class Abcdefgh a1 0\n", "class I V 0\n",
		"class A Obj 0\nface F\n", "class A Obj 0\nface F\nface G\nface H\n", "class A Obj 5\nface A\n",
		"class A Obj 0\nfield x I 0\n", "class A Obj 0\nfield x LA; 1\n", "class A Obj 0\nfield x LAbcdefgh; 2\nfield y I 3\n", "class A Obj 5\nfield A I 1\n",
		"class A Obj 0\nface F\nfield F LF; 0\n",
		"class A Obj 4\nmethod f ()V 8\n", "class A Obj 5\nmethod f (I)I 8\nmethod f ()I 8\n", "class A Obj 5\nmethod f (ILA;ILObj;)LErr; 8\n",
		"class A Obj 0\nmethod f ()V 1 0 0\n  nop\n", "class A Obj 0\nmethod begin ()V 1 8 8\n  give\n", "class A Obj 0\nmethod f (IIII)V 6 0 5\n  nop\n",
		"class A Obj 0\nmethod f ()V 1 0 0\n  nop\n  nop\n  nop\nmethod g ()V 1 0 0\n  nop\n",
		"class A Obj 0\nmethod f ()V 1 0 0\n  nop\ntrap 0 1 0 -\n", "class A Obj 0\nmethod f ()V 1 0 0\n  nop\ntrap 0 1 0 A\ntrap 0 1 0 -\ntrap 0 1 0 Q\n",
		"class A Obj 0\nmethod f ()V 1 0 0\n  nop\n  nop\ntrap 0 1 1 Err\ntrap 0 1 1 Err\n",
		"class A Obj 0\nmethod f ()V 1 0 0\n  nop\nframe 0 . .\n", "class A Obj 0\nmethod f ()V 1 1 1\n  nop\nframe 0 - -\n", "class A Obj 0\nmethod f ()V 1 1 0\n  nop\nframe 0 . I\n",
		"class A Obj 0\nmethod f ()V 1 0 1\n  nop\nframe 0 N .\n", "class A Obj 0\nmethod f ()V 1 8 8\n  nop\n  nop\nframe 0 -,I,N,LA;,LObj;,LQ;,LA;,- N\nframe 1 I,I,I,I,I,I,I,I LErr;,LZ;,-,-,N,I,LA;,LQ;\n",
		"class A Obj 0\nmethod f ()V 1 0 0\n  nop\n  nop\ntrap 0 1 1 -\nframe 1 . .\nmethod g ()V 1 0 0\n  nop\ntrap 0 1 0 -\nframe 0 . .\n",
	} {
		wantLines(t, "a kind", s)
	}
}

// poolWords tells a pool: texts, `c` and a place, `p`, `f`, `m` or `i` and two.
func poolWords(pool []impl.Const) string {
	var out []string
	for _, e := range pool {
		switch e.Kind {
		case impl.ConstName:
			out = append(out, "'"+e.Text)
		case impl.ConstClass:
			out = append(out, fmt.Sprint("c", e.A))
		default:
			out = append(out, fmt.Sprint(string("   pfmi"[e.Kind]), e.A, ",", e.B))
		}
	}
	return strings.Join(out, " ")
}

// The pool is as the lines make it, from left to right, each entry behind those that it tells.
func TestLinesPool(t *testing.T) {
	method := func(ops string) string { return "class A Obj 0\nmethod f ()V 1 0 0\n" + ops }
	const ahead = "'A c1 'Obj c3 'f '()V"
	for _, c := range []struct{ text, want string }{
		{"class A Obj 0\n", "'A c1 'Obj c3"},
		{"class Obj A 0\n", "'Obj c1 'A c3"},
		{"class A Obj 0\nface G\nface F\nface A\n", "'A c1 'Obj c3 'G c5 'F c7"},
		{"class A Obj 0\nfield x I 0\nfield y I 0\nfield A LA; 0\n", "'A c1 'Obj c3 'x 'I 'y 'LA;"},
		{"class A Obj 0\nfield I I 0\n", "'A c1 'Obj c3 'I"},
		{"class I Obj 0\nfield x I 0\n", "'I c1 'Obj c3 'x"},
		{"class A Obj 0\nfield x LQ; 0\nface Q\n", ""},
		{"class A Obj 4\nmethod f ()I 8\nmethod f ()V 8\nmethod Obj ()V 8\n", "'A c1 'Obj c3 'f '()I '()V"},
		{"class A Obj 0\nfield Q LQ; 0\nmethod f (LQ;)V 1 0 1\n  new Q\n", "'A c1 'Obj c3 'Q 'LQ; 'f '(LQ;)V c5"},
		{method("  new Q\n  cast Obj\n  is Q\n  new R\n"), ahead + " 'Q c7 'R c9"},
		{method("  get Q n I\n"), ahead + " 'Q c7 'n 'I p9,10 f8,11"},
		{method("  get A f I\n"), ahead + " 'I p5,7 f2,8"},
		{method("  get A A LA;\n"), ahead + " 'LA; p1,7 f2,8"},
		{method("  put Q n I\n  getall R n I\n  putall Q n LQ;\n  get Q n I\n"), ahead + " 'Q c7 'n 'I p9,10 f8,11 'R c13 f14,11 'LQ; p9,16 f8,17"},
		{method("  virtual Q n ()V\n"), ahead + " 'Q c7 'n p9,6 m8,10"},
		{method("  static A f ()V\n"), ahead + " p5,6 m2,7"},
		{method("  special A f ()V\n  virtual A f ()V\n  static A f ()V\n"), ahead + " p5,6 m2,7"},
		{method("  virtual Q g (I)V\n  face Q g (I)V\n  face R g (I)V\n"), ahead + " 'Q c7 'g '(I)V p9,10 m8,11 i8,11 'R c14 i15,11"},
		{method("  nop\ntrap 0 1 0 Q\ntrap 0 1 0 -\ntrap 0 1 0 Err\n"), ahead + " 'Q c7 'Err c9"},
		{"class A Obj 0\nmethod f ()V 1 2 3\n  nop\nframe 0 LQ;,I,LR; LS;,LQ;\n", ahead + " 'Q c7 'R c9 'S c11"},
		{"class A Obj 0\nmethod f ()V 1 1 1\n  new T\ntrap 0 3 0 S\nframe 0 LR; LQ;\nmethod g ()V 1 0 0\n  new P\n", ahead + " 'T c7 'S c9 'R c11 'Q c13 'g 'P c16"},
	} {
		x, ok := impl.AsmGet(c.text)
		if got := poolWords(x.Pool); got != c.want || ok != (c.want != "") {
			t.Errorf("%q: %v, %s, wanted %s", c.text, ok, got, c.want)
		}
		if ok {
			wantLines(t, "a pool", c.text)
		}
	}
}

// opLines is a class with some ops in a method.
func opLines(ops ...string) string {
	out := "class B Obj 0\nmethod f ()V 1 0 8\n"
	for _, op := range ops {
		out += "  " + op + "\n"
	}
	return out
}

// behindWords is what may stand behind an op in opLines, as words; the first is with no entry, or with what is new to the pool.
func behindWords(op int) []string {
	switch {
	case op == impl.OpPush:
		return []string{"0", "1", "-1", "7", "255", "256", "-256", "32767", "-32768"}
	case op >= impl.OpLoad && op <= impl.OpRefStore:
		return []string{"0", "1", "7"}
	case op >= impl.OpIfZero && op <= impl.OpGo:
		return []string{"0"}
	case op == impl.OpNew || op == impl.OpCast || op == impl.OpIs:
		return []string{"Q", "B", "Obj", "f", "Abcdefg8"}
	case op >= impl.OpGet && op <= impl.OpPutAll:
		return []string{"Q n I", "B n LB;", "Obj f LAbcdefg8;", "B B I"}
	case op >= impl.OpVirtual && op <= impl.OpFace:
		return []string{"Q n ()V", "B f ()V", "Obj B (IILB;LAbcdefg8;)LB;", "Q Q (I)I"}
	}
	return nil
}

// numBehind is the number that stands behind an op that tells such words in opLines, beside the entries of its class and method.
func numBehind(op int, words string) int {
	if n, err := strconv.Atoi(words); err == nil {
		return n
	}
	c := classOf(opLines("nop"))
	a := asm{class: c}
	w := strings.Fields(words)
	if len(w) == 1 {
		return a.of(w[0])
	}
	return a.member(op, w[0], w[1], w[2])
}

// Each op is told by its word, and what stands behind it.
func TestLinesOps(t *testing.T) {
	if len(opWords) != impl.OpPrint+1 {
		t.Fatal(len(opWords))
	}
	for op, word := range opWords {
		if behind(op) == 0 {
			c := wantLines(t, word, opLines(word))
			if c.Methods[0].Code != string([]byte{byte(op)}) {
				t.Errorf("%s: %q", word, c.Methods[0].Code)
			}
			wantLines(t, word, opLines("nop", word, "push 1", word))
			continue
		}
		for _, words := range behindWords(op) {
			c := wantLines(t, word, opLines(word+" "+words))
			if want := codeOf([2]int{op, numBehind(op, words)}); c.Methods[0].Code != want {
				t.Errorf("%s %s: %q, wanted %q", word, words, c.Methods[0].Code, want)
			}
			wantLines(t, word, opLines("nop", word+" "+words, "push 1", word+" "+words))
		}
	}
}

// What is no op, or has behind it what the op has not.
func TestLinesWrongOps(t *testing.T) {
	for _, word := range []string{"", "Nop", "NOP", "nops", "no", "halt", "giveInt", "end", "35", "0", "frame", "class", "trap", "field", "method", "-", ".", "nop\x00", "nöp", "load0"} {
		for _, words := range []string{"", " 0", " Q", " Q n I"} {
			wantNoLines(t, word, opLines(word+words))
		}
	}
	numbers := []string{"", "Q", "-", "+0", "00", "-0", "0x0", "0.0", "1e1", "٣", "0 0", "Q n I", "65536", "99999999999999999999", "-99999999999999999999"}
	wrong := map[string][]string{
		"none":   {"", "0", "Q", "-", "Q n I", "Q n ()V"},
		"push":   {"32768", "-32769", "65535", "--1", "+1", "01", "-01", "1_0"},
		"local":  {"8", "-1", "255", "256", "01", "+1"},
		"place":  {"1", "2", "3", "-1", "256", "+0"},
		"class":  {"", "0", "1", "-", "1Q", "Q Q", "LQ;", "Abcdefgh9", "Q_", "Q n I", "()V", "q.", "Obj;"},
		"field":  {"", "Q", "Q n", "Q n V", "Q n ()V", "Q n I I", "1 n I", "Q 1 I", "Q n 1", "Q n LQ", "Q n Q", "Q n L;", "n", "7", "Abcdefgh9 n I", "Q Abcdefgh9 I", "Q n LAbcdefgh9;", "- n I", "LQ; n I"},
		"method": {"", "Q", "Q n", "Q n I", "Q n ()", "Q n V", "Q n ()V V", "1 n ()V", "Q 1 ()V", "Q n (V)V", "Q n (IIIII)V", "Q n (I,I)V", "Abcdefgh9 n ()V", "Q Abcdefgh9 ()V", "12", "- n ()V"},
	}
	for op, word := range opWords {
		var list []string
		switch {
		case behind(op) == 0:
			list = wrong["none"]
		case op == impl.OpPush:
			list = append(wrong["push"], numbers...)
		case op <= impl.OpRefStore:
			list = append(wrong["local"], numbers...)
		case op <= impl.OpGo:
			list = append(wrong["place"], numbers...)
		case op >= impl.OpGet && op <= impl.OpPutAll:
			list = wrong["field"]
		case op >= impl.OpVirtual && op <= impl.OpFace:
			list = wrong["method"]
		default:
			list = wrong["class"]
		}
		for _, words := range list {
			wantNoLines(t, word, opLines(word+" "+words))
		}
		if behind(op) > 0 {
			wantNoLines(t, word, opLines(word))
			good := word + " " + behindWords(op)[0]
			for _, bad := range []string{good + " ", good + " 0", " " + good, good + "\r", strings.ToUpper(word) + good[len(word):], "\t" + good, word + "  " + behindWords(op)[0], word + "," + behindWords(op)[0]} {
				wantNoLines(t, word, opLines(bad))
			}
		}
	}
	// An op goes on where one begins, or nowhere.
	ops := []string{"push 1", "load 0", "ifzero 8", "give"}
	wantLines(t, "goes on at the last op", opLines(ops...))
	for at := -1; at < 11; at++ {
		ops[2] = fmt.Sprint("ifzero ", at)
		if slices.Contains([]int{0, 3, 5, 8}, at) {
			wantLines(t, ops[2], opLines(ops...))
		} else {
			wantNoLines(t, ops[2], opLines(ops...))
		}
	}
}

// A blank, a newline or another such byte more, or one less, anywhere, is not read.
func TestLinesBlanks(t *testing.T) {
	for _, text := range []string{fullLines, "class A Obj 0\n", "class A Obj 4\nmethod f ()V 8\n"} {
		wantLines(t, "as it was", text)
		for at := range len(text) + 1 {
			for _, more := range []string{" ", "  ", "\n", "\t", "\r", "\x00", "\xff", ";", "\r\n", "  nop\n\n"} {
				wantNoLines(t, fmt.Sprintf("%q at %d", more, at), text[:at]+more+text[at:])
			}
		}
		for at, b := range []byte(text) {
			if b == ' ' || b == '\n' {
				wantNoLines(t, fmt.Sprintf("without %q at %d", b, at), text[:at]+text[at+1:])
				for _, other := range []string{"\t", "\r", ",", "_", "\u00a0", "\x00"} {
					wantNoLines(t, fmt.Sprintf("%q for %q at %d", other, b, at), text[:at]+other+text[at+1:])
				}
			}
		}
		for size := range len(text) {
			if c, ok := impl.AsmGet(text[:size]); ok && impl.AsmPut(c) != text[:size] {
				t.Errorf("cut at %d it is read", size)
			} else if ok && text[size-1] != '\n' {
				t.Errorf("cut at %d, within a line, it is read", size)
			}
		}
	}
	wantNoLines(t, "nothing", "")
	wantNoLines(t, "an empty line", "\n")
	wantNoLines(t, "an empty line behind", fullLines+"\n")
	wantNoLines(t, "no newline at the end", strings.TrimSuffix(fullLines, "\n"))
}

// A word more or less, anywhere, is not read.
func TestLinesWords(t *testing.T) {
	text := strings.SplitAfter(strings.TrimSuffix(fullLines, "\n"), "\n")
	text[len(text)-1] += "\n"
	with := func(at int, line string) string {
		return strings.Join(append(append(slices.Clone(text[:at]), line), text[at+1:]...), "")
	}
	for at, line := range text {
		lead := line[:len(line)-len(strings.TrimLeft(line, " "))]
		words := strings.Fields(line)
		for i, word := range words {
			less := append(slices.Clone(words[:i]), words[i+1:]...)
			wantNoLines(t, fmt.Sprintf("%q without %s", line, word), with(at, lead+strings.Join(less, " ")+"\n"))
			for _, more := range []string{word, "0", "-", "x", "", "I"} {
				list := slices.Insert(slices.Clone(words), i, more)
				wantNoLines(t, fmt.Sprintf("%q with %s at %d", line, more, i), with(at, lead+strings.Join(list, " ")+"\n"))
			}
		}
		wantNoLines(t, "one at the end", with(at, strings.TrimSuffix(line, "\n")+" 0\n"))
		wantNoLines(t, "upper case", with(at, lead+strings.ToUpper(words[0])+line[len(lead)+len(words[0]):]))
		wantNoLines(t, "another lead", with(at, lead+"x"+line[len(lead):]))
	}
}

// numberCases are lines with %s for a number, which of the numbers 0, 1, 2 .. may stand there, and up to which.
var numberCases = []struct {
	text string
	fine []int
}{
	{"class A Obj %s\n", []int{0, 2, 4, 5}},
	{"class A Obj 0\nfield x I %s\n", []int{0, 1, 2, 3}},
	{"class A Obj 5\nfield x I %s\n", []int{1}},
	{"class A Obj 0\nmethod f ()V %s 1 1\n  nop\n", []int{0, 1, 2, 3, 4, 5, 6, 7}},
	{"class A Obj 4\nmethod f ()V %s\n", []int{8}},
	{"class A Obj 0\nmethod f ()V 1 %s 0\n  nop\n", []int{0, 1, 2, 3, 4, 5, 6, 7, 8}},
	{"class A Obj 0\nmethod f ()V 0 0 %s\n  nop\n", []int{1, 2, 3, 4, 5, 6, 7, 8}},
	{"class A Obj 0\nmethod f (II)V 1 0 %s\n  nop\n", []int{2, 3, 4, 5, 6, 7, 8}},
	{"class A Obj 0\nmethod f ()V 1 0 3\n  load %s\n", []int{0, 1, 2}},
	{"class A Obj 0\nmethod f ()V 1 0 0\n  nop\n  go %s\n  nop\n", []int{0, 1, 4}},
	{"class A Obj 0\nmethod f ()V 1 0 0\n  nop\n  go 0\n  nop\ntrap %s 5 0 -\n", []int{0, 1, 4}},
	{"class A Obj 0\nmethod f ()V 1 0 0\n  nop\n  go 0\n  nop\ntrap 0 %s 0 Err\n", []int{1, 4, 5}},
	{"class A Obj 0\nmethod f ()V 1 0 0\n  nop\n  go 0\n  nop\ntrap 0 5 %s -\n", []int{0, 1, 4}},
	{"class A Obj 0\nmethod f ()V 1 0 0\n  nop\n  go 0\n  nop\nframe %s . .\n", []int{0, 1, 4}},
	{"class A Obj 0\nmethod f ()V 1 0 0\n  nop\n  go 0\n  nop\nframe 0 . .\nframe %s . .\n", []int{1, 4}},
}

// Numbers are written in decimals, without needless zeros, and are such as the class may have.
func TestLinesNumbers(t *testing.T) {
	for _, c := range numberCases {
		with := func(s string) string { return strings.ReplaceAll(c.text, "%s", s) }
		for n := range 70 {
			if slices.Contains(c.fine, n) {
				wantLines(t, fmt.Sprint(n), with(strconv.Itoa(n)))
			} else {
				wantNoLines(t, fmt.Sprint(n), with(strconv.Itoa(n)))
			}
		}
		for _, n := range c.fine {
			s := strconv.Itoa(n)
			for _, bad := range []string{"0" + s, "00" + s, "+" + s, "-0" + s, s + ".", s + ".0", s + "e0", "0x" + s, " " + s, s + " ", s + "_0", "_" + s, s + "I"} {
				wantNoLines(t, bad, with(bad))
			}
			for _, wrap := range []int{256, 65536, 1 << 32} {
				wantNoLines(t, "wrapped", with(strconv.Itoa(n+wrap)))
				wantNoLines(t, "wrapped", with(strconv.Itoa(n-wrap)))
			}
		}
		for _, bad := range []string{"", "-", "+", ".", "-0", "-1", "x", "255", "256", "65535", "65536", "9223372036854775807", "9223372036854775808", "18446744073709551616", "99999999999999999999999999", "-9223372036854775809", "\u0660", "\uff11", "①"} {
			wantNoLines(t, bad, with(bad))
		}
	}
	for n := -32800; n <= 32800; n += 1 + 31*min(abs(n+32768), abs(n-32767), abs(n))/40 {
		text := opLines("push " + strconv.Itoa(n))
		if n >= -32768 && n <= 32767 {
			wantLines(t, "push", text)
		} else {
			wantNoLines(t, "push", text)
		}
	}
}

func abs(n int) int {
	return max(n, -n)
}

// Kinds of a frame are told with commas between, `.` of none.
func TestLinesKinds(t *testing.T) {
	frame := func(locals int, words string) string {
		return fmt.Sprint("class A Obj 0\nmethod f ()V 1 2 ", locals, "\n  nop\nframe 0 ", words, "\n")
	}
	for _, c := range []struct {
		locals int
		words  string
		fine   bool
	}{
		{0, ". .", true}, {1, "- .", true}, {1, "I .", true}, {1, "N .", true}, {1, "LQ; .", true}, {2, "-,- -,-", true}, {2, "LA;,LA; LA;,N", true}, {2, "N,I I", true},
		{0, ". -", true}, {0, ". I,LObj;", true}, {1, "LAbcdefg8; LAbcdefg8;", true},
		{0, "- .", false}, {1, ". .", false}, {1, "I,I .", false}, {2, "I .", false}, {0, ". I,I,I", false},
		{1, "I, .", false}, {1, ",I .", false}, {2, "I,,I .", false}, {2, "I, I .", false}, {2, "I;I .", false}, {1, "I. .", false}, {2, ".,. .", false}, {2, "I,. .", false},
		{1, "LQ .", false}, {1, "Q .", false}, {1, "Q; .", false}, {1, "L; .", false}, {1, "LQ;; .", false}, {1, "LLQ;; .", false}, {1, "lQ; .", false}, {1, "L1; .", false}, {1, "LAbcdefgh9; .", false},
		{1, "i .", false}, {1, "n .", false}, {1, "V .", false}, {1, "0 .", false}, {1, "1 .", false}, {1, "-- .", false}, {1, "II .", false}, {0, ". ..", false}, {0, "  .", false}, {0, ".", false}, {0, ". . .", false}, {0, "", false},
		{1, "()V .", false}, {1, "Obj .", false}, {0, "I", false},
	} {
		if c.fine {
			wantLines(t, c.words, frame(c.locals, c.words))
		} else {
			wantNoLines(t, c.words, frame(c.locals, c.words))
		}
	}
	// A trap's class is a name, or `-`.
	for words, fine := range map[string]bool{"-": true, "Err": true, "Q": true, "0": false, "": false, ".": false, "I": true, "LQ;": false, "--": false, "1Q": false, "Abcdefgh9": false, "- -": false, "Q -": false} {
		text := "class A Obj 0\nmethod f ()V 1 1 0\n  nop\ntrap 0 1 0 " + words + "\n"
		if fine {
			wantLines(t, words, text)
		} else {
			wantNoLines(t, words, text)
		}
	}
}

// Lines stand in one order.
func TestLinesOrder(t *testing.T) {
	const head, face, field, asks = "class A Obj 4\n", "face F\n", "field x I 0\n", "method f ()V 8\n"
	const body, op, trap, frame = "method g ()V 1 0 0\n", "  nop\n", "trap 0 1 0 -\n", "frame 0 . .\n"
	wantLines(t, "in order", head+face+field+asks+body+op+trap+frame)
	wantLines(t, "methods turned", head+face+field+body+op+trap+frame+asks)
	for _, s := range []string{
		face + head + field, field + head, asks + head, head + head, face + head, body + op + head,
		head + field + face, head + asks + face, head + asks + field, head + body + op + field, head + body + op + face, head + face + field + face, head + field + asks + field,
		head + op, head + trap, head + frame, head + face + op, head + field + trap, head + field + frame, head + asks + op, head + asks + trap, head + asks + frame, head + asks + op + trap + frame,
		head + body, head + body + trap, head + body + frame, head + body + trap + op, head + body + frame + op, head + body + op + frame + trap, head + body + op + trap + op, head + body + op + frame + op, head + body + op + trap + frame + trap,
		head + body + op + asks + trap, head + body + op + asks + frame, head + body + op + asks + op, head + body + asks, head + body + body + op,
		op, trap, frame, face, field, asks, body, body + op, op + head, trap + head, frame + head,
		head + body + op + op + "frame 1 . .\nframe 0 . .\n", head + body + op + op + "frame 1 . .\nframe 1 . .\n",
		head + "end\n", head + "\n" + face, head + face + head, head + "class B Obj 0\n", head + body + op + head, "end\n" + head, head + "# why\n", "Class A Obj 4\n",
	} {
		wantNoLines(t, "in another order", s)
	}
}
