package tests

import (
	"cmp"
	"fmt"
	"math"
	"regexp"
	"slices"
	"strings"
	"testing"

	"loop.example/stowage/impl"
)

// refCases are classes, entries that nobody names, and the names that are asked for.
var refCases = []struct {
	what string
	src  string
	more []impl.Const
	want string
}{
	{"nothing", "class A Obj 0", nil, ""},
	{"what is above", "class A B 0", nil, "B"},
	{"Err above", "class A Err 0", nil, ""},
	{"faces", "class A Obj 0\nface G\nface F", nil, "F G"},
	{"itself as a face", "class A Obj 5\nface A\nface F", nil, "F"},
	{"what is above as a face, too", "class A B 0\nface B", nil, "B"},
	{"types of fields", "class A Obj 0\nfield x LC; 0\nfield y I 0\nfield z LB; 1", nil, "B C"},
	{"types within a method's type", "class A Obj 4\nmethod f (LC;ILE;)LD; 8", nil, "C D E"},
	{"what a method takes", "class A Obj 4\nmethod f (LB;LC;LD;LE;)V 8", nil, "B C D E"},
	{"what a method gives back", "class A Obj 4\nmethod f (I)LB; 8\nmethod g ()I 8", nil, "B"},
	{"behind ops", "class A Obj 0\n" + refMain("new C / cast B / is D / pop"), nil, "B C D"},
	{"entries of fields", "class A Obj 0\n" + refMain("getall B x LC; / pop"), nil, "B C"},
	{"entries of methods", "class A Obj 0\n" + refMain("static B f (LD;)LC; / pop / null / face F g ()LE; / pop"), nil, "B C D E F"},
	{"traps and frames", "class A Obj 0\nmethod f ()V 1 1 1\n  null\n  pop\n  give\ntrap 0 1 2 B\nframe 2 LC; LD;", nil, "B C D"},
	{"its own", "class A Obj 0\nfield x LA; 0\n" + refMain("new A / pop / static A f (LA;)LA; / pop"), nil, ""},
	{"Obj and Err", "class A Obj 0\nfield x LObj; 0\nfield y LErr; 0\n" + refMain("new Err / cast Obj / pop"), nil, ""},
	{"one name many times", "class A B 0\nface B\nfield x LB; 0\nfield y LB; 1\n" + refMain("new B / pop / static B f (LB;LB;)LB; / pop"), nil, "B"},
	{"names of fields and methods", "class A Obj 4\nfield B I 0\nfield C LD; 0\nmethod E ()V 8", nil, "D"},
	{"names that look like types", "class A Obj 4\nfield LB I 0\nfield I I 0\nfield L I 0\nfield V I 0\nmethod LCI ()V 8", nil, ""},
	{"names byte by byte", "class M Obj 4\nfield x Lb; 0\nfield y La; 0\nfield z LBa; 0\nfield u LB1; 0\nfield v LBB; 0\nmethod f (LB;LB11;Lz9;)LZ; 8", nil, "B B1 B11 BB Ba Z a b z9"},
	{"the longest name", "class A abcdefgh 0\nfield x Labcdefg; 0", nil, "abcdefg abcdefgh"},
	{"a type that nobody names", "class A Obj 0", []impl.Const{{Kind: impl.ConstName, Text: "LQ;"}}, "Q"},
	{"a method's type that nobody names", "class A Obj 0", []impl.Const{{Kind: impl.ConstName, Text: "(LQ;I)LR;"}}, "Q R"},
	{"a name that nobody names", "class A Obj 0", []impl.Const{{Kind: impl.ConstName, Text: "Q"}, {Kind: impl.ConstName, Text: "LQ"}, {Kind: impl.ConstName, Text: "I"}, {Kind: impl.ConstName, Text: "()V"}}, ""},
	// The pool of `class A Obj 0` is A, its class, Obj, its class.
	{"a class that nobody names", "class A Obj 0", []impl.Const{{Kind: impl.ConstName, Text: "Q"}, {Kind: impl.ConstClass, A: 5}}, "Q"},
	{"a class that stands ahead of its name", "class A Obj 0", []impl.Const{{Kind: impl.ConstClass, A: 6}, {Kind: impl.ConstName, Text: "Q"}}, "Q"},
	{"its own class twice", "class A Obj 0", []impl.Const{{Kind: impl.ConstName, Text: "A"}, {Kind: impl.ConstClass, A: 5}, {Kind: impl.ConstClass, A: 1}}, ""},
	{"a pair that nobody names", "class A Obj 0", []impl.Const{{Kind: impl.ConstName, Text: "LQ;"}, {Kind: impl.ConstPair, A: 1, B: 5}}, "Q"},
	{"a field that nobody names", "class A Obj 0", []impl.Const{{Kind: impl.ConstName, Text: "B"}, {Kind: impl.ConstClass, A: 5}, {Kind: impl.ConstName, Text: "LQ;"}, {Kind: impl.ConstPair, A: 1, B: 7}, {Kind: impl.ConstField, A: 6, B: 8}}, "B Q"},
}

// refMain is a method with ops, and an end.
func refMain(list string) string {
	return "method m ()V 1 3 0\n" + ops(list+" / give")
}

// withMore is a class with entries that nobody names.
func withMore(src string, more []impl.Const) impl.Class {
	c := classOf(src)
	c.Pool = append(c.Pool, more...)
	return c
}

func TestRefsOf(t *testing.T) {
	for _, c := range refCases {
		x := withMore(c.src, c.more)
		if code := impl.ClassCheck(x); code != impl.FormFine {
			t.Fatal(c.what, code)
		}
		if got := strings.Join(impl.RefsOf(x), " "); got != c.want {
			t.Errorf("%s: %s, wanted %s", c.what, got, c.want)
		}
	}
}

// A class with something wrong names nothing, whatever it is.
func TestRefsOfNotFine(t *testing.T) {
	if got := strings.Join(impl.RefsOf(soundClass()), " "); got != "B" {
		t.Error(got)
	}
	for _, f := range classFaults() {
		c := soundClass()
		f.turn(&c)
		if got := impl.RefsOf(c); len(got) > 0 != (f.want == impl.FormFine) {
			t.Errorf("%s: %v", f.name, got)
		}
	}
	for _, f := range faceFaults() {
		c := soundFace()
		f.turn(&c)
		if got := impl.RefsOf(c); len(got) > 0 != (f.want == impl.FormFine) {
			t.Errorf("a face, %s: %v", f.name, got)
		}
	}
	if got := impl.RefsOf(impl.Class{}); len(got) > 0 {
		t.Error("nothing", got)
	}
}

var typeOfClass = regexp.MustCompile(`L([A-Za-z][A-Za-z0-9]*);`)

// refsIn are the names that a class asks for, told a second time.
func refsIn(c impl.Class) []string {
	if impl.ClassCheck(c) != impl.FormFine {
		return nil
	}
	var out []string
	for _, e := range c.Pool {
		if e.Kind == impl.ConstClass {
			out = append(out, c.Pool[e.A-1].Text)
		}
		for _, found := range typeOfClass.FindAllStringSubmatch(e.Text, -1) {
			out = append(out, found[1])
		}
	}
	own := c.Pool[c.Pool[c.Name-1].A-1].Text
	out = slices.DeleteFunc(out, func(name string) bool { return name == own || name == "Obj" || name == "Err" })
	slices.Sort(out)
	return slices.Compact(out)
}

// Promise 57.
func TestPromiseRefs(t *testing.T) {
	t.Parallel()
	many := map[int]int{}
	for seed := range 3000 {
		d := newDice(seed)
		c := classOf(randomLines(d))
		if d.below(4) == 0 {
			c = randomClass(d)
		}
		for range d.below(3) {
			c.Pool = append(c.Pool, impl.Const{Kind: impl.ConstName, Text: d.pick([]string{"LQ;", "(LQ;)LR1;", "Q", "(I)V", "LObj;", "(LErr;)LS;"})})
		}
		refs := impl.RefsOf(c)
		if want := refsIn(c); !slices.Equal(refs, want) {
			t.Fatal(seed, refs, want)
		}
		many[min(len(refs), 3)]++
		if impl.ClassCheck(c) != impl.FormFine {
			continue
		}
		text := func(place int) string { return c.Pool[c.Pool[place-1].A-1].Text }
		for i, name := range refs {
			if i > 0 && refs[i-1] >= name || !impl.NameOk(name) || slices.Contains([]string{"Obj", "Err", text(c.Name)}, name) {
				t.Fatal(seed, refs)
			}
		}
		if !slices.Contains(append([]string{"Obj", "Err", text(c.Name)}, refs...), text(c.Super)) {
			t.Fatal(seed, refs, text(c.Super))
		}
	}
	for n := range 4 {
		if many[n] < 20 {
			t.Error("too few", many)
		}
	}
}

// pairs are pairs as they are told, each as LOADER:NAME.
func pairs(list []impl.Pair) string {
	var out []string
	for _, p := range list {
		out = append(out, fmt.Sprint(p.Loader, ":", p.Name))
	}
	return strings.Join(out, " ")
}

func wantReach(t *testing.T, what string, list []impl.Loader, loader int, name string, want string) {
	t.Helper()
	if got := pairs(impl.RefsReach(list, loader, name)); got != want {
		t.Errorf("%s: RefsReach of %d %s: %s, wanted %s", what, loader, name, got, want)
	}
}

func TestRefsReach(t *testing.T) {
	way := func(name string, to int) impl.Way { return impl.Way{Name: name, To: to} }
	one := []impl.Loader{loaderOf(t, -1, "class A B 0\nfield x LC; 0\nclass B Obj 0\nfield x LA; 0\nclass D E 0\nclass E Obj 0\n")}
	wantReach(t, "names of a class, and of those", one, 0, "A", "0:A 0:B 0:C")
	wantReach(t, "names that come round", one, 0, "B", "0:A 0:B 0:C")
	wantReach(t, "others", one, 0, "D", "0:D 0:E")
	wantReach(t, "who names nothing", one, 0, "E", "0:E")
	wantReach(t, "what nobody makes", one, 0, "C", "0:C")
	wantReach(t, "what nobody knows", one, 0, "abcdefgh", "0:abcdefgh")
	// Who makes a class asks for its names, not who is given it.
	two := []impl.Loader{loaderOf(t, -1, "class A B 0\nclass B C 0\n"), loaderOf(t, 0, "class B Obj 0\nclass D A 0\nfield x LB; 0\n"), {Parent: 1}}
	wantReach(t, "by the maker", two, 1, "A", "0:A 0:B 0:C 1:A")
	wantReach(t, "by both", two, 1, "D", "0:A 0:B 0:C 1:A 1:B 1:D")
	wantReach(t, "by all three", two, 2, "D", "0:A 0:B 0:C 1:A 1:B 1:D 2:D")
	wantReach(t, "its own", two, 1, "B", "1:B")
	wantReach(t, "a path that nobody ends", two, 2, "Z", "0:Z 1:Z 2:Z")
	// Ways come ahead of files.
	ways := []impl.Loader{loaderOf(t, -1, "class A B 0\n", way("A", 1), way("C", 0)), loaderOf(t, -1, "class A C 0\n", way("C", 0)), {Parent: 0, Ways: []impl.Way{way("B", 1)}}}
	wantReach(t, "a way ahead of a file", ways, 0, "A", "0:A 0:C 1:A 1:C")
	wantReach(t, "a way, then a way to oneself", ways, 1, "C", "0:C 1:C")
	wantReach(t, "a way to oneself", ways, 0, "C", "0:C")
	wantReach(t, "a way to one who has none", ways, 2, "B", "1:B 2:B")
	wantReach(t, "a parent, then a way", ways, 2, "A", "0:A 0:C 1:A 1:C 2:A")
	round := []impl.Loader{loaderOf(t, -1, "class A B 0\n", way("A", 1)), loaderOf(t, -1, "class A C 0\n", way("A", 2)), loaderOf(t, -1, "class A D 0\n", way("A", 0))}
	for loader := range round {
		wantReach(t, "ways that go round", round, loader, "A", "0:A 1:A 2:A")
	}
	// A way back to the first loader, of another name.
	back := []impl.Loader{loaderOf(t, -1, "class A Obj 0\nfield x LB; 0\nclass C D 0\n", way("B", 1)), loaderOf(t, -1, "class B Obj 0\nfield x LC; 0\n", way("C", 0))}
	wantReach(t, "there and back", back, 0, "A", "0:A 0:B 0:C 0:D 1:B 1:C")
	wantReach(t, "its own parent", []impl.Loader{{}}, 0, "A", "0:A")
	// By loader, then by name, byte by byte.
	sorted := []impl.Loader{loaderOf(t, -1, "class M a 0\nfield x LB; 0\nfield y LB1; 0\nfield z LBB; 0\nfield u LBa; 0\nfield v Lb; 0\n"), {Parent: 0}}
	wantReach(t, "in order", sorted, 1, "M", "0:B 0:B1 0:BB 0:Ba 0:M 0:a 0:b 1:M")
}

// A file that is no class names nothing; one whose class has another name does, but for that name.
func TestRefsReachFiles(t *testing.T) {
	text := textOf(t, "class A B 0\nfield x LC; 0\n")
	file := func(text string) []impl.Loader {
		return []impl.Loader{{Files: []impl.File{{Name: "A", Text: text}, fileOf(t, "class B D 0")}, Parent: -1}, {Parent: 0}}
	}
	wantReach(t, "a class", file(text), 1, "A", "0:A 0:B 0:C 0:D 1:A")
	for _, bad := range []string{"", "x", text[:len(text)-1], text + "\x00", strings.Repeat("x", impl.FileMax)} {
		wantReach(t, "bytes that are no class", file(bad), 1, "A", "0:A 1:A")
	}
	for _, src := range []string{"class A B 8", "class A B 6", "class A A 0\nfield x LC; 0", "class A B 0\nfield x LC; 4", "class A B 0\nmethod f ()V 8"} {
		bad := classOf(src)
		if impl.ClassCheck(bad) == impl.FormFine || impl.FilePut(bad) == "" {
			t.Fatal(src)
		}
		wantReach(t, src, file(impl.FilePut(bad)), 1, "A", "0:A 1:A")
	}
	wantReach(t, "another name", file(textOf(t, "class Q B 0\nfield x LC; 0\nfield y LQ; 0\n")), 1, "A", "0:A 0:B 0:C 0:D 1:A")
	wantReach(t, "another name, that asks for this one", file(textOf(t, "class Q Obj 0\nfield x LA; 0\n")), 1, "A", "0:A 1:A")
	wantReach(t, "another name, that of a file", file(textOf(t, "class B Obj 0\nfield x LC; 0\n")), 0, "A", "0:A 0:C")
	// What is above does not matter: nothing is brought.
	kinds := []impl.Loader{loaderOf(t, -1, "class A F 0\nclass F Obj 2\nclass G G1 0\nclass G1 G 0\n")}
	wantReach(t, "what cannot be brought", kinds, 0, "A", "0:A 0:F")
	wantReach(t, "what is above goes round", kinds, 0, "G", "0:G 0:G1")
}

// Entries that nobody names are asked for, as nobody looks at who names them.
func TestRefsReachUnnamed(t *testing.T) {
	for _, c := range refCases {
		x := withMore(c.src, c.more)
		own := strings.Fields(c.src)[1]
		list := []impl.Loader{{Files: []impl.File{{Name: own, Text: impl.FilePut(x)}}, Parent: -1}}
		names := append(strings.Fields(c.want), own)
		slices.Sort(names)
		wantReach(t, c.what, list, 0, own, "0:"+strings.Join(names, " 0:"))
	}
}

func TestRefsReachNotOk(t *testing.T) {
	for _, f := range loaderFaults {
		list := f.turn(soundLoaders(t))
		for loader := range 4 {
			wantReach(t, f.name, list, loader, "A", "")
		}
	}
	list := soundLoaders(t)
	wantReach(t, "loaders that are ok", list, 1, "E", "0:E 1:E")
	for _, loader := range []int{-1, -2, 3, 4, math.MinInt, math.MaxInt} {
		wantReach(t, "a loader that is not there", list, loader, "A", "")
	}
	for _, name := range notAsked() {
		for loader := range list {
			wantReach(t, "no name", list, loader, name, "")
		}
	}
	wantReach(t, "nothing", nil, 0, "A", "")
}

// As many loaders, files and names as may be.
func TestRefsReachMost(t *testing.T) {
	var list []impl.Loader
	for at := range impl.LoaderMax {
		l := impl.Loader{Parent: (at + 1) % impl.LoaderMax}
		for i := range impl.FilesMax {
			c := classOf(fmt.Sprintf("class N%d%d Obj 0", at, i))
			for n := len(c.Pool); n < 40; n++ {
				c.Pool = append(c.Pool, impl.Const{Kind: impl.ConstName, Text: fmt.Sprintf("(LN%d%d;)LU%d%dx%d;", n%3, n%5, at, i, n)})
			}
			if impl.ClassCheck(c) != impl.FormFine {
				t.Fatal(impl.ClassCheck(c))
			}
			l.Files = append(l.Files, impl.File{Name: fmt.Sprintf("N%d%d", at, i), Text: impl.FilePut(c)})
		}
		list = append(list, l)
	}
	got := impl.RefsReach(list, 0, "N00")
	// All three are asked for each name that nobody makes; for what one makes, by who asks ahead of it.
	if !slices.Equal(got, reachIn(list, 0, "N00")) || len(got) < 1500 {
		t.Error(len(got))
	}
}

// reachIn are pairs, told a second time: step by step, each loader hands on to the next one, until nothing new comes.
func reachIn(list []impl.Loader, loader int, name string) []impl.Pair {
	set := map[impl.Pair]int{{Loader: loader, Name: name}: 1}
	for many := 0; many != len(set); {
		many = len(set)
		var more []impl.Pair
		for p := range set {
			more = append(more, handsOn(list[p.Loader], p)...)
		}
		for _, p := range more {
			set[p] = 1
		}
	}
	var out []impl.Pair
	for p := range set {
		out = append(out, p)
	}
	slices.SortFunc(out, func(a impl.Pair, b impl.Pair) int {
		return cmp.Or(a.Loader-b.Loader, strings.Compare(a.Name, b.Name))
	})
	return out
}

// handsOn are the pairs that come of one at its own loader.
func handsOn(l impl.Loader, p impl.Pair) []impl.Pair {
	for _, w := range l.Ways {
		if w.Name == p.Name {
			return []impl.Pair{{Loader: w.To, Name: p.Name}}
		}
	}
	for _, f := range l.Files {
		if f.Name != p.Name {
			continue
		}
		var out []impl.Pair
		if c, ok := impl.FileGet(f.Text); ok {
			for _, name := range refsIn(c) {
				out = append(out, impl.Pair{Loader: p.Loader, Name: name})
			}
		}
		return out
	}
	if l.Parent < 0 {
		return nil
	}
	return []impl.Pair{{Loader: l.Parent, Name: p.Name}}
}

// refLoaders are loaders of many classes that name others; some files are no classes, or those of other names.
func refLoaders(t *testing.T, d *dice) []impl.Loader {
	list := randomLoaders(t, d)
	if d.below(2) == 0 {
		list = randomStart(d).Loaders
	}
	for _, l := range list {
		for i := range l.Files {
			f := &l.Files[i]
			switch d.below(20) {
			case 0:
				f.Text = f.Text[:d.below(len(f.Text))]
			case 1:
				f.Text = textOf(t, fmt.Sprint("class ", d.pick([]string{"A", "C", "Q"}), " ", d.pick([]string{"B", "D", "R"}), " 0"))
			case 2:
				c := classOf("class " + f.Name + " S 0\nfield x LT; 0")
				c.Flags = 8
				f.Text = impl.FilePut(c)
			}
		}
	}
	return list
}

// Promise 58.
func TestPromiseReach(t *testing.T) {
	t.Parallel()
	many := map[int]int{}
	for seed := range 2000 {
		d := newDice(seed)
		list := refLoaders(t, d)
		loader, name := d.below(len(list)), d.pick([]string{"A", "B", "C", "D", "E", "F", "M", "Q"})
		got := impl.RefsReach(list, loader, name)
		if want := reachIn(list, loader, name); !slices.Equal(got, want) {
			t.Fatal(seed, loader, name, pairs(got), pairs(want))
		}
		if !slices.Contains(got, impl.Pair{Loader: loader, Name: name}) {
			t.Fatal(seed, loader, name, pairs(got))
		}
		for i, p := range got {
			if i > 0 && (got[i-1].Loader > p.Loader || got[i-1].Loader == p.Loader && got[i-1].Name >= p.Name) {
				t.Fatal(seed, pairs(got))
			}
			for _, at := range impl.PathOf(list, p.Loader, p.Name) {
				if !slices.Contains(got, impl.Pair{Loader: at, Name: p.Name}) {
					t.Fatal(seed, p, at, pairs(got))
				}
			}
			for _, more := range impl.RefsReach(list, p.Loader, p.Name) {
				if !slices.Contains(got, more) {
					t.Fatal(seed, p, more, pairs(got))
				}
			}
		}
		many[min(len(got)/3, 3)]++
	}
	for n := range 4 {
		if many[n] < 50 {
			t.Error("too few", many)
		}
	}
}

// Promise 59.
func TestPromiseReachOfRuns(t *testing.T) {
	t.Parallel()
	knows := 0
	for seed := range 1500 {
		d := newDice(seed)
		s := randomStart(d)
		if d.below(4) == 0 {
			s = anyStart(t, d)
		}
		s.Picks = nil
		all := impl.RefsReach(s.Loaders, s.Loader, s.Name)
		for _, steps := range []int{0, 1, 5, 20, impl.FuelMax + 1} {
			r := impl.RunTo(s, steps)
			for _, k := range r.World.Known {
				if !slices.Contains(all, impl.Pair{Loader: k.Loader, Name: k.Name}) {
					t.Fatal(seed, steps, k, pairs(all))
				}
			}
			knows += len(r.World.Known)
		}
	}
	if knows < 5000 {
		t.Error("too few", knows)
	}
	// With a pick something comes that nobody names.
	s := startOf(loaderOf(t, -1, mainOf(1, 0, "give")+"class Z Obj 0\n"))
	wantReach(t, "M alone", s.Loaders, s.Loader, "M", "0:M")
	s.Picks = []impl.Pick{{Kind: impl.PickLoad, Name: "Z"}}
	if r := impl.RunTo(s, 1); known(r.World) != "0:M=2 0:Z=3" {
		t.Error(known(r.World))
	}
}
