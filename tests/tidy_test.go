package tests

import (
	"fmt"
	"math"
	"slices"
	"strings"
	"testing"

	"loop.example/stowage/impl"
)

// tidyBy is M with a method of two places, its ops, traps and frames told with ` / ` between.
func tidyBy(body string) string {
	return "class M Obj 0\nmethod m ()V 1 4 2\n" + lines(body) + "\n"
}

// tidyCases are methods, and what they are without ops that do nothing.
var tidyCases = []struct {
	what string
	from string
	to   string
}{
	{"nothing to do", "push 1 / pop / give", "push 1 / pop / give"},
	{"first", "nop / push 1 / pop / give", "push 1 / pop / give"},
	{"in between", "push 1 / nop / pop / nop / give", "push 1 / pop / give"},
	{"last", "give / nop", "give / nop"},
	{"alone", "nop", "nop"},
	{"first and last", "nop / give / nop", "give / nop"},
	{"several behind one another", "push 1 / nop / nop / nop / nop / pop / give", "push 1 / pop / give"},
	{"several first", "nop / nop / nop / give", "give"},
	{"several last", "give / nop / nop / nop", "give / nop"},
	{"nothing else", "nop / nop / nop", "nop"},
	{"numbers that look like it", "push 0 / store 0 / nop / load 0 / push 256 / add / print / push -256 / print / give", "push 0 / store 0 / load 0 / push 256 / add / print / push -256 / print / give"},
	{"what stands behind other ops", "nop / nop / load 1 / refload 1 / new X / get X f I / nop / static X g (I)V / null / face F g ()V / cast X / is X / push 3 / give", "load 1 / refload 1 / new X / get X f I / static X g (I)V / null / face F g ()V / cast X / is X / push 3 / give"},

	{"ahead of a place", "push 1 / ifzero e / nop / e: / give", "push 1 / ifzero e / e: / give"},
	{"at a place", "push 1 / ifzero e / print / e: / nop / give", "push 1 / ifzero e / print / e: / give"},
	{"ahead of a place, at it, and behind it", "push 1 / ifneg e / nop / e: / nop / nop / give", "push 1 / ifneg e / e: / give"},
	{"at a place, and others behind it", "nop / null / ifnull e / nop / e: / nop / nop / nop / give / nop / give", "null / ifnull e / e: / give / give"},
	{"two places in one", "null / null / ifsame e / null / ifnull f / e: / nop / nop / f: / nop / give", "null / null / ifsame e / null / ifnull e / e: / give"},
	{"back to the first", "f: / nop / push 1 / ifzero f / nop / go f", "f: / push 1 / ifzero f / go f"},
	{"back behind the first", "nop / f: / push 1 / nop / ifzero f / go f", "f: / push 1 / ifzero f / go f"},
	{"to itself", "nop / f: / go f", "f: / go f"},
	{"to one that leads to itself", "f: / nop / go f", "f: / go f"},
	{"to the last", "go e / nop / e: / nop", "go e / e: / nop"},
	{"ahead of the last", "go e / e: / nop / nop", "go e / e: / nop"},
	{"places that are not moved", "go e / e: / give / nop / give", "go e / e: / give / give"},

	{"a trap's beginning", "f: / nop / push 1 / e: / pop / h: / give / trap f e h Err", "f: / push 1 / e: / pop / h: / give / trap f e h Err"},
	{"behind a trap's beginning", "f: / push 1 / nop / e: / pop / h: / give / trap f e h Err", "f: / push 1 / e: / pop / h: / give / trap f e h Err"},
	{"a trap's end", "f: / push 1 / e: / nop / pop / h: / give / trap f e h -", "f: / push 1 / e: / pop / h: / give / trap f e h -"},
	{"both ends of a trap", "f: / nop / push 1 / e: / nop / pop / h: / give / trap f e h X", "f: / push 1 / e: / pop / h: / give / trap f e h X"},
	{"ahead of a trap", "nop / nop / f: / push 1 / e: / pop / h: / give / trap f e h Err", "f: / push 1 / e: / pop / h: / give / trap f e h Err"},
	{"where a trap leads to", "f: / push 1 / e: / give / h: / nop / pop / give / trap f e h Err", "f: / push 1 / e: / give / h: / pop / give / trap f e h Err"},
	{"a trap to the end", "give / f: / nop / h: / nop / trap f end h Err", "give / f: / nop / trap f end f Err"},
	{"a trap of the last", "give / nop / f: / nop / trap f end f Err", "give / f: / nop / trap f end f Err"},
	{"a trap of the last but one", "give / f: / nop / e: / nop / trap f e e Err", "give / nop"},
	{"a trap of nothing", "f: / nop / e: / give / h: / throw / trap f e h Err", "give / throw"},
	{"a trap of nothing at all", "push 1 / f: / nop / nop / nop / e: / give / h: / throw / trap f e h Err", "push 1 / give / throw"},
	{"a trap of nothing but that, and of one more", "f: / nop / nop / e: / give / h: / throw / trap f h h Err", "e: / give / h: / throw / trap e h h Err"},
	{"the first of two traps holds nothing", "f: / nop / e: / give / h: / throw / trap f e h Err / trap f h e X", "e: / give / h: / throw / trap e h e X"},
	{"the second of two", "f: / nop / e: / give / h: / throw / trap f h h Err / trap f e e X", "e: / give / h: / throw / trap e h h Err"},
	{"the middle one of three", "f: / nop / e: / give / h: / throw / trap f h h Err / trap f e h X / trap e end h -", "e: / give / h: / throw / trap e h h Err / trap e end h -"},
	{"all of three", "f: / nop / g: / nop / e: / give / h: / throw / trap f e h Err / trap g e h X / trap f g h -", "give / throw"},
	{"two that are one then", "f: / nop / g: / nop / e: / give / h: / throw / trap f h h Err / trap g h h Err", "e: / give / h: / throw / trap e h h Err / trap e h h Err"},

	{"a frame at it", "push 1 / f: / nop / pop / give / frame f -,- I", "push 1 / f: / pop / give / frame f -,- I"},
	{"a frame ahead of it", "push 1 / f: / pop / nop / give / frame f -,I I", "push 1 / f: / pop / give / frame f -,I I"},
	{"a frame behind it", "push 1 / nop / f: / pop / give / frame f -,- I", "push 1 / f: / pop / give / frame f -,- I"},
	{"a frame at the last", "give / nop / f: / nop / frame f LX;,N .", "give / f: / nop / frame f LX;,N ."},
	{"two frames in one place", "f: / nop / g: / give / frame f -,I . / frame g -,- I", "g: / give / frame g -,- I"},
	{"two frames in one place, and ops between", "f: / nop / nop / nop / g: / give / frame f -,I . / frame g N,- I", "g: / give / frame g N,- I"},
	{"two frames of what is gone", "f: / nop / g: / nop / give / frame f -,I . / frame g N,- I", "g: / give / frame g N,- I"},
	{"three frames in one place", "f: / nop / g: / nop / h: / give / frame f LX;,I . / frame g -,I I,I / frame h -,- I", "h: / give / frame h -,- I"},
	{"three, and others beside them", "e: / give / f: / nop / g: / nop / h: / give / k: / nop / l: / give / frame e -,- . / frame f -,- I / frame g -,I I / frame h N,- . / frame k -,- I / frame l -,N N", "e: / give / h: / give / l: / give / frame e -,- . / frame h N,- . / frame l -,N N"},
	{"two frames at the end", "give / f: / nop / g: / nop / frame f -,I . / frame g -,- I", "give / g: / nop / frame g -,- I"},
	{"all at once", "s: / nop / f: / push 1 / nop / ifzero g / t: / nop / e: / nop / go s / h: / nop / k: / pop / g: / nop / give / trap f t h Err / trap t e k X / trap s g h - / frame s -,- I / frame f -,I . / frame h -,- LErr; / frame k -,- LObj; / frame g N,- .",
		"s: / push 1 / ifzero g / e: / go s / k: / pop / g: / give / trap s e k Err / trap s g k - / frame s -,I . / frame k -,- LObj; / frame g N,- ."},
}

func TestTidyOf(t *testing.T) {
	for _, c := range tidyCases {
		from := classOf(tidyBy(c.from))
		if code := impl.ClassCheck(from); code != impl.FormFine {
			t.Fatal(c.what, "ClassCheck is", code)
		}
		got := impl.TidyOf(from)
		if text, want := linesOf(got), linesOf(classOf(tidyBy(c.to))); text != want {
			t.Errorf("%s:\n%swanted\n%s", c.what, text, want)
		}
		checkTidy(t, c.what, from, got)
	}
}

// checkTidy is promise 63, and that nothing but methods is another.
func checkTidy(t *testing.T, what string, from impl.Class, got impl.Class) {
	t.Helper()
	if code := impl.ClassCheck(got); code != impl.FormFine || len(impl.FilePut(got)) > len(impl.FilePut(from)) || !same(impl.TidyOf(got), got) {
		t.Fatal(what, code, linesOf(impl.TidyOf(got)))
	}
	from, rest := copied(from), copied(got)
	for at, m := range got.Methods {
		ops, _ := impl.OpsGet(m.Code)
		if i := slices.IndexFunc(ops, func(in impl.Ins) bool { return in.Op == impl.OpNop }); i >= 0 && i < len(ops)-1 {
			t.Fatal(what, at, ops)
		}
		for _, c := range []impl.Class{from, rest} {
			c.Methods[at].Code, c.Methods[at].Traps, c.Methods[at].Frames = "", nil, nil
		}
	}
	if !same(from, rest) {
		t.Fatal(what, from, rest)
	}
}

// Each method by itself; those without a body, the pool, fields and all else stay as they are.
func TestTidyClass(t *testing.T) {
	src := "class M A 4\nface F\nfield x LQ; 0\nfield y I 3\n" + asks("a", "(LQ;)I") + "method b ()V 0 3 2\nnop\ngive\n" + asks("c", "()V") + "method begin ()V 1 0 0\nf:\nnop\nnop\ngo f\n" + "method d (I)I 2 1 3\nload 1\ngiveint\nnop\n"
	c := classOf(src)
	c.Pool = append(c.Pool, impl.Const{Kind: impl.ConstName, Text: "nobody"}, impl.Const{Kind: impl.ConstName, Text: "F"})
	want := classOf(strings.NewReplacer("3 2\nnop\n", "3 2\n", "nop\nnop\ngo f", "go f").Replace(src))
	want.Pool = c.Pool
	if got := impl.TidyOf(c); !same(got, want) || impl.ClassCheck(c) != impl.FormFine {
		t.Errorf("%+v, wanted %+v", got, want)
	}
	// Entries that nobody names any more stay.
	c = classOf(tidyBy("f: / nop / e: / give / trap f e e Q / frame f LZ;,- . / frame e -,- ."))
	if got := impl.TidyOf(c); !same(got.Pool, c.Pool) || len(got.Methods[0].Traps) > 0 || len(got.Methods[0].Frames) != 1 {
		t.Errorf("%+v", got)
	}
	// As many ops, traps and frames as may be.
	body := strings.Repeat("nop / ", 117) + "f: / go f / trap 0 f 0 Err / trap 0 end 0 - / trap 5 90 6 Err"
	for i := range impl.FrameMax {
		body += fmt.Sprint(" / frame ", i*16, " -,- .")
	}
	c = classOf(tidyBy(body))
	got := impl.TidyOf(c)
	if text := linesOf(got); len(c.Methods[0].Code) != impl.CodeMax || text != linesOf(classOf(tidyBy("f: / go f / trap f end f - / frame f -,- ."))) {
		t.Error(text)
	}
	checkTidy(t, "as many as may be", c, got)
}

// A class with something wrong is tidied to nothing.
func TestTidyNotOk(t *testing.T) {
	if same(impl.TidyOf(soundClass()), impl.Class{}) || same(impl.TidyOf(soundFace()), impl.Class{}) || !same(impl.TidyOf(impl.Class{}), impl.Class{}) {
		t.Error("sound classes")
	}
	for _, f := range classFaults() {
		c := soundClass()
		f.turn(&c)
		if got := impl.TidyOf(c); same(got, impl.Class{}) != (f.want != impl.FormFine) {
			t.Errorf("%s: %v", f.name, got)
		}
	}
	for _, f := range faceFaults() {
		c := soundFace()
		f.turn(&c)
		if got := impl.TidyOf(c); same(got, impl.Class{}) != (f.want != impl.FormFine) {
			t.Errorf("a face, %s: %v", f.name, got)
		}
	}
}

// tidyIn tidies a class a second time: what names a place names the op that comes there, and is looked up again at the end.
func tidyIn(c impl.Class) impl.Class {
	c = copied(c)
	for at := range c.Methods {
		m := &c.Methods[at]
		if m.Flags&impl.MemAbstract != 0 {
			continue
		}
		ops, _ := impl.OpsGet(m.Code)
		var stays []int
		var code [][2]int
		for i, in := range ops {
			if in.Op != impl.OpNop || i == len(ops)-1 {
				stays = append(stays, i)
				code = append(code, [2]int{in.Op, in.Num})
			}
		}
		to := func(place int) int {
			n := 0
			for _, i := range stays {
				if ops[i].At >= place {
					return n
				}
				n += 1 + behind(ops[i].Op)
			}
			return n
		}
		for i := range code {
			if op := code[i][0]; op >= impl.OpIfZero && op <= impl.OpGo {
				code[i][1] = to(code[i][1])
			}
		}
		m.Code = codeOf(code...)
		var traps []impl.Trap
		for _, trap := range m.Traps {
			trap.From, trap.To, trap.At = to(trap.From), to(trap.To), to(trap.At)
			if trap.From != trap.To {
				traps = append(traps, trap)
			}
		}
		byPlace := map[int]impl.Frame{}
		for _, f := range m.Frames {
			f.At = to(f.At)
			byPlace[f.At] = f
		}
		m.Traps, m.Frames = traps, nil
		for place := range impl.CodeMax {
			if f, ok := byPlace[place]; ok {
				m.Frames = append(m.Frames, f)
			}
		}
	}
	return c
}

// padded is a class with ops that do nothing ahead of others; as it is, if it would be too great. Places are where an op stands then, or ahead of it; if it is to be proved still, all that has a frame has it ahead of what was added, and some of it once more behind that.
func padded(d *dice, c impl.Class, proves bool) impl.Class {
	out := copied(c)
	for at := range out.Methods {
		if out.Methods[at].Flags&impl.MemAbstract == 0 {
			padMethod(d, &out.Methods[at], proves)
		}
	}
	if impl.ClassCheck(out) != impl.FormFine {
		return c
	}
	return out
}

func padMethod(d *dice, m *impl.Method, proves bool) {
	ops, _ := impl.OpsGet(m.Code)
	places, own, code, long := map[int]int{}, map[int]int{}, [][2]int{}, 0
	for _, in := range ops {
		many := d.below(3) * d.below(2)
		places[in.At], own[in.At] = long, long+many
		if !proves {
			places[in.At] += d.below(many + 1)
		}
		code = append(append(code, slices.Repeat([][2]int{{impl.OpNop, 0}}, many)...), [2]int{in.Op, in.Num})
		long += many + 1 + behind(in.Op)
	}
	places[len(m.Code)] = long
	for i, in := range code {
		if in[0] >= impl.OpIfZero && in[0] <= impl.OpGo {
			code[i][1] = places[in[1]]
		}
	}
	m.Code = codeOf(code...)
	for i, trap := range m.Traps {
		m.Traps[i].From, m.Traps[i].To, m.Traps[i].At = places[trap.From], places[trap.To], places[trap.At]
	}
	left := impl.FrameMax - len(m.Frames)
	var frames []impl.Frame
	for _, f := range m.Frames {
		at := f.At
		f.At = places[at]
		frames = append(frames, f)
		if f.At < own[at] && left > 0 {
			f.At = own[at]
			frames, left = append(frames, f), left-1
		}
	}
	m.Frames = frames
}

// Promise 63, of classes that are made up; what was padded is as it was.
func TestPromiseTidy(t *testing.T) {
	t.Parallel()
	fine, turned := 0, 0
	for seed := range 4000 {
		d := newDice(seed)
		c := randomClass(d)
		switch d.below(3) {
		case 0:
			c = classOf(randomProof(d))
		case 1:
			c = classOf(randomLines(d))
		}
		if impl.ClassCheck(c) != impl.FormFine {
			if !same(impl.TidyOf(c), impl.Class{}) {
				t.Fatal(seed)
			}
			continue
		}
		fine++
		got := impl.TidyOf(c)
		if want := tidyIn(c); !same(got, want) {
			t.Fatalf("seed %d:\n%swanted\n%s", seed, linesOf(got), linesOf(want))
		}
		checkTidy(t, fmt.Sprint("seed ", seed), c, got)
		more := padded(d, got, d.below(2) == 0)
		if !same(more, got) {
			turned++
		}
		if !same(impl.TidyOf(more), got) {
			t.Fatalf("seed %d:\n%swanted\n%s", seed, linesOf(impl.TidyOf(more)), linesOf(got))
		}
	}
	if fine < 1400 || turned < 1000 {
		t.Error("too few", fine, turned)
	}
}

// paddedStart is a start with ops that do nothing in its classes.
func paddedStart(d *dice, s impl.Start) impl.Start {
	s = ownStart(s)
	for i, l := range s.Loaders {
		for k, f := range l.Files {
			if c, ok := impl.FileGet(f.Text); ok && impl.ClassCheck(c) == impl.FormFine {
				s.Loaders[i].Files[k].Text = impl.FilePut(padded(d, c, true))
			}
		}
	}
	return s
}

// Promise 64.
func TestPromiseTidyRuns(t *testing.T) {
	t.Parallel()
	ends, fewer := map[int]int{}, 0
	for seed := range 1500 {
		d := newDice(seed)
		s := randomStart(d)
		if d.below(4) == 0 {
			s = anyStart(t, d)
		}
		s = paddedStart(d, s)
		s.Prove, s.Picks = true, nil
		a := impl.RunAll(s)
		ends[a.End]++
		if a.End == impl.EndFault || a.End == impl.EndFuel {
			continue
		}
		tidy := s
		tidy.Loaders = impl.TidyAll(s.Loaders)
		b := impl.RunAll(tidy)
		if a.End != b.End || a.Name != b.Name || !same(a.Out, b.Out) || b.Steps > a.Steps {
			t.Fatalf("seed %d: %s, tidied %s", seed, tellAnswer(a), tellAnswer(b))
		}
		if b.Steps < a.Steps {
			fewer++
		}
	}
	for _, end := range []int{impl.EndFine, impl.EndThrown, impl.EndRoom, impl.EndDeep} {
		if ends[end] < 5 {
			t.Error("too few", ends)
		}
	}
	if fewer < 250 {
		t.Error("too few", fewer)
	}
}

// A file is tidied, if it is a class, by whatever name; all else stays as it is.
func TestTidyAll(t *testing.T) {
	src := tidyBy("nop / push 1 / ifzero e / nop / e: / nop / give / frame e -,- .")
	text, tidy := textOf(t, src), textOf(t, tidyBy("push 1 / ifzero e / e: / give / frame e -,- ."))
	bad := classOf(src)
	bad.Flags = 8
	list := []impl.Loader{
		{Files: []impl.File{{Name: "M", Text: text}, {Name: "Q", Text: text}, {Name: "Z", Text: "no"}, {Name: "E"}, {Name: "T", Text: tidy}}, Parent: 1},
		{Files: []impl.File{{Name: "M", Text: text + "x"}, {Name: "N", Text: text[:len(text)-1]}, {Name: "B", Text: impl.FilePut(bad)}}, Ways: []impl.Way{{Name: "M", To: 0}, {Name: "Z", To: 2}}, Parent: -1},
		{Parent: 2},
	}
	want := append([]impl.Loader{}, list...)
	want[0].Files = append([]impl.File{}, list[0].Files...)
	want[0].Files[0].Text, want[0].Files[1].Text = tidy, tidy
	if got := impl.TidyAll(list); !same(got, want) || text == tidy || impl.FilePut(bad) == "" {
		t.Errorf("%+v, wanted %+v", got, want)
	}
	for _, f := range loaderFaults {
		if got := impl.TidyAll(f.turn(soundLoaders(t))); len(got) > 0 {
			t.Error(f.name, got)
		}
	}
	if got := impl.TidyAll([]impl.Loader{{Parent: -1}}); !same(got, []impl.Loader{{Parent: -1}}) {
		t.Error(got)
	}
	for _, parent := range []int{-2, 1, math.MinInt, math.MaxInt} {
		if got := impl.TidyAll([]impl.Loader{{Parent: parent}}); len(got) > 0 {
			t.Error(parent, got)
		}
	}
}

// Promise 65.
func TestPromiseTidyAll(t *testing.T) {
	t.Parallel()
	turned := 0
	for seed := range 700 {
		d := newDice(seed)
		list := randomStart(d).Loaders
		if d.below(2) == 0 {
			list = paddedStart(d, impl.Start{Loaders: randomLoaders(t, d)}).Loaders
		}
		for i := range list {
			for k := range list[i].Files {
				if d.below(8) == 0 {
					list[i].Files[k].Text = d.text(d.below(40))
				}
			}
		}
		got := impl.TidyAll(list)
		want := ownStart(impl.Start{Loaders: list}).Loaders
		for i, l := range want {
			for k, f := range l.Files {
				if c, ok := impl.FileGet(f.Text); ok && impl.ClassCheck(c) == impl.FormFine {
					want[i].Files[k].Text = impl.FilePut(impl.TidyOf(c))
				}
			}
		}
		if !same(got, want) || !same(impl.TidyAll(got), got) || !impl.WorldOk(impl.WorldNew(got)) {
			t.Fatal(seed)
		}
		if !same(got, list) {
			turned++
		}
	}
	if turned < 60 {
		t.Error("too few", turned)
	}
}
