package tests

import (
	"fmt"
	"slices"
	"strings"
	"testing"

	"loop.example/stowage/impl"
)

// soundLoaders are three loaders with all that a loader may have, each as many as may be.
func soundLoaders(t *testing.T) []impl.Loader {
	bare := func(name string) impl.File { return fileOf(t, "class "+name+" Obj 0") }
	return []impl.Loader{
		{Files: []impl.File{bare("E"), bare("D"), bare("C"), bare("B"), bare("A")}, Parent: -1},
		{Files: []impl.File{bare("A")}, Ways: []impl.Way{{Name: "A1", To: 0}, {Name: "B", To: 0}, {Name: "C", To: 2}, {Name: "Obj", To: 1}}, Parent: 0},
		{Parent: 2},
	}
}

// loaderFaults are turns of soundLoaders, each of which breaks one thing that is asked of loaders.
var loaderFaults = []struct {
	name string
	turn func(l []impl.Loader) []impl.Loader
}{
	{"no loaders", func(l []impl.Loader) []impl.Loader { return nil }},
	{"one loader too many", func(l []impl.Loader) []impl.Loader { return append(l, impl.Loader{Parent: -1}) }},
	{"one file too many", func(l []impl.Loader) []impl.Loader {
		l[0].Files = append(l[0].Files, impl.File{Name: "F"})
		return l
	}},
	{"a file's name twice", func(l []impl.Loader) []impl.Loader { l[0].Files[4].Name = "E"; return l }},
	{"a file's name that is none", func(l []impl.Loader) []impl.Loader { l[0].Files[2].Name = "9"; return l }},
	{"a file's name that is empty", func(l []impl.Loader) []impl.Loader { l[0].Files[2].Name = ""; return l }},
	{"a file's name that is too long", func(l []impl.Loader) []impl.Loader { l[0].Files[2].Name = "abcdefghi"; return l }},
	{"a file of Obj", func(l []impl.Loader) []impl.Loader { l[0].Files[2].Name = "Obj"; return l }},
	{"a file of Err", func(l []impl.Loader) []impl.Loader { l[1].Files[0].Name = "Err"; return l }},
	{"a file of one byte too many", func(l []impl.Loader) []impl.Loader {
		l[0].Files[2].Text = strings.Repeat("x", impl.FileMax+1)
		return l
	}},
	{"one way too many", func(l []impl.Loader) []impl.Loader {
		l[1].Ways = append(l[1].Ways, impl.Way{Name: "Z"})
		return l
	}},
	{"a way's name that is none", func(l []impl.Loader) []impl.Loader { l[1].Ways[0].Name = "A-"; return l }},
	{"a way's name that is empty", func(l []impl.Loader) []impl.Loader { l[1].Ways[0].Name = ""; return l }},
	{"ways that are not in order", func(l []impl.Loader) []impl.Loader { l[1].Ways[1].Name = "A0"; return l }},
	{"a longer name ahead of how it begins", func(l []impl.Loader) []impl.Loader { l[1].Ways[1].Name = "A"; return l }},
	{"a way twice", func(l []impl.Loader) []impl.Loader { l[1].Ways[1].Name = "A1"; return l }},
	{"a way to nobody", func(l []impl.Loader) []impl.Loader { l[1].Ways[2].To = -1; return l }},
	{"a way to a loader that is not there", func(l []impl.Loader) []impl.Loader { l[1].Ways[2].To = 3; return l }},
	{"a parent below nobody", func(l []impl.Loader) []impl.Loader { l[0].Parent = -2; return l }},
	{"a parent that is not there", func(l []impl.Loader) []impl.Loader { l[2].Parent = 3; return l }},
}

// Promise 11.
func TestWorldNew(t *testing.T) {
	w := impl.WorldNew(soundLoaders(t))
	want := impl.World{Loaders: soundLoaders(t), Classes: []impl.Cls{
		{Name: "Obj", Loader: -1, Super: -1, State: impl.StateLinked, Begun: impl.BeginDone},
		{Name: "Err", Loader: -1, Super: 0, State: impl.StateLinked, Begun: impl.BeginDone},
	}}
	if !same(w, want) || !impl.WorldOk(w) {
		t.Fatal(w)
	}
	for loader := range w.Loaders {
		for class, name := range []string{"Obj", "Err"} {
			x, got, fault := impl.WorldLoad(w, loader, name)
			if !same(x, w) || got != class || fault != (impl.Fault{}) {
				t.Error(loader, name, got, fault)
			}
		}
	}
	if !impl.WorldSub(w, impl.ClassErr, impl.ClassObj) || impl.WorldSub(w, impl.ClassObj, impl.ClassErr) {
		t.Error("below")
	}
}

func TestWorldNewOfOddLoaders(t *testing.T) {
	fine := func(name string, l []impl.Loader) {
		if w := impl.WorldNew(l); !same(w.Loaders, l) || len(w.Classes) != 2 {
			t.Error(name)
		}
	}
	fine("one loader with nothing", []impl.Loader{{Parent: -1}})
	fine("a loader that is its own parent", []impl.Loader{{}})
	fine("a way to itself", []impl.Loader{{Ways: []impl.Way{{Name: "abcdefgh"}}, Parent: -1}})
	l := soundLoaders(t)
	l[0].Files[2].Text = strings.Repeat("x", impl.FileMax)
	l[0].Files[3].Text = ""
	fine("files of as many bytes as may be, and of none", l)
	for _, f := range loaderFaults {
		l := f.turn(soundLoaders(t))
		if w := impl.WorldNew(l); !same(w, impl.World{}) {
			t.Error(f.name, w)
		}
		w := impl.WorldNew(soundLoaders(t))
		w.Loaders = l
		if impl.WorldOk(w) {
			t.Error("WorldOk with ", f.name)
		}
	}
}

const (
	srcA = "class A Obj 0\n"
	srcB = "class B A 0\n"
	srcF = "class F Obj 5\n"
)

// soundWorld has classes of two loaders, with what is above them.
func soundWorld(t *testing.T) impl.World {
	return worldOf(t, loaderOf(t, -1, srcA+srcF), loaderOf(t, 0, "class B A 0\nface F\nface G\n"+"class G Obj 5\nface F\n"), impl.Loader{Parent: 1})
}

func TestLoadWhatIsAbove(t *testing.T) {
	w, class := load(t, soundWorld(t), 1, "B")
	if class != 5 || names(w) != "0:A 0:F 1:G 1:B" || known(w) != "0:A=2 1:A=2 0:F=3 1:F=3 1:G=4 1:B=5" || len(w.Bonds) > 0 {
		t.Fatal(class, names(w), known(w))
	}
	b := w.Classes[5]
	file, _ := impl.FileGet(w.Loaders[1].Files[0].Text)
	if !same(b, impl.Cls{Name: "B", Loader: 1, File: file, Super: 2, Faces: []int{3, 4}, State: impl.StateLoaded}) {
		t.Error(b)
	}
	x, class := load(t, w, 2, "B")
	if class != 5 || len(x.Classes) != 6 || known(x) != known(w)+" 2:B=5" {
		t.Error(class, known(x))
	}
	e, class := load(t, worldOf(t, loaderOf(t, -1, "class A Err 0")), 0, "A")
	if class != 2 || e.Classes[2].Super != impl.ClassErr {
		t.Error("below Err")
	}
}

// A way comes ahead of a file, a file ahead of the parent, and what is known ahead of all.
func TestLoadWhoIsAsked(t *testing.T) {
	a := loaderOf(t, -1, srcA)
	all := loaderOf(t, 0, srcA, impl.Way{Name: "A", To: 2})
	w, class := load(t, worldOf(t, a, all, a), 1, "A")
	if w.Classes[class].Loader != 2 || known(w) != "2:A=2 1:A=2" {
		t.Error("a way ahead of a file and of the parent", known(w))
	}
	w, class = load(t, worldOf(t, a, loaderOf(t, 0, srcA)), 1, "A")
	if w.Classes[class].Loader != 1 || known(w) != "1:A=2" {
		t.Error("a file ahead of the parent", known(w))
	}
	w, class = load(t, worldOf(t, a, impl.Loader{Parent: 0, Ways: []impl.Way{{Name: "AA", To: 1}, {Name: "B", To: 1}}}), 1, "A")
	if w.Classes[class].Loader != 0 || known(w) != "0:A=2 1:A=2" {
		t.Error("the parent", known(w))
	}
	// What a loader knows stays, though it would have another one made now.
	w = worldOf(t, a, loaderOf(t, 0, srcB+"class C A 0"))
	w, _ = load(t, w, 1, "B")
	w.Loaders[1].Files = append(w.Loaders[1].Files, a.Files[0])
	if !impl.WorldOk(w) {
		t.Fatal("a file of what is known by the parent")
	}
	x, class := load(t, w, 1, "A")
	y, above := load(t, w, 1, "C")
	if class != 2 || !same(x, w) || y.Classes[above].Super != 2 {
		t.Error("what is known")
	}
}

// Obj and Err are these two, whatever ways there are.
func TestLoadFirstNames(t *testing.T) {
	w := worldOf(t, impl.Loader{Parent: -1, Ways: []impl.Way{{Name: "Err", To: 0}, {Name: "Obj", To: 0}}})
	for class, name := range []string{"Obj", "Err"} {
		if x, got := load(t, w, 0, name); got != class || !same(x, w) {
			t.Error(name, got)
		}
	}
}

func TestLoadFaultNone(t *testing.T) {
	w := worldOf(t, loaderOf(t, -1, srcB+"class C Obj 0\nface Q"), loaderOf(t, -1, "class D Obj 0", impl.Way{Name: "A", To: 0}), loaderOf(t, 1, srcB))
	wantLoadFault(t, w, 0, "A", impl.FaultNone, "A")
	wantLoadFault(t, w, 0, "D", impl.FaultNone, "D")
	wantLoadFault(t, w, 1, "A", impl.FaultNone, "A")
	wantLoadFault(t, w, 2, "A", impl.FaultNone, "A")
	wantLoadFault(t, w, 0, "B", impl.FaultNone, "A")
	wantLoadFault(t, w, 2, "B", impl.FaultNone, "A")
	wantLoadFault(t, w, 0, "C", impl.FaultNone, "Q")
	wantLoadFault(t, w, 0, "abcdefgh", impl.FaultNone, "abcdefgh")
	if x, class := load(t, w, 2, "D"); class != 2 || known(x) != "1:D=2 2:D=2" {
		t.Error("beside that", known(x))
	}
}

func TestLoadFaultForm(t *testing.T) {
	file := func(text string) impl.World {
		return worldOf(t, impl.Loader{Parent: -1, Files: []impl.File{{Name: "A", Text: text}}})
	}
	load(t, file(textOf(t, srcA)), 0, "A")
	wantLoadFault(t, file(""), 0, "A", impl.FaultForm, "A")
	wantLoadFault(t, file(textOf(t, srcA)+"\x00"), 0, "A", impl.FaultForm, "A")
	wantLoadFault(t, file(textOf(t, "class B Obj 0")), 0, "A", impl.FaultForm, "A")
	wantLoadFault(t, file(textOf(t, "class B Q 0")), 0, "A", impl.FaultForm, "A")
	for _, f := range classFaults() {
		c := soundClass()
		f.turn(&c)
		if text := impl.FilePut(c); text != "" && f.want != impl.FormFine {
			wantLoadFault(t, file(text), 0, "A", impl.FaultForm, "A")
		}
	}
	// It is told of the one that is made, and ahead of what is above that.
	w := worldOf(t, impl.Loader{Parent: -1, Files: []impl.File{{Name: "A", Text: "x"}, fileOf(t, srcB), fileOf(t, "class C Obj 0\nface A")}})
	wantLoadFault(t, w, 0, "B", impl.FaultForm, "A")
	wantLoadFault(t, w, 0, "C", impl.FaultForm, "A")
	c := classOf("class A Q 0")
	c.Flags = 8
	wantLoadFault(t, file(impl.FilePut(c)), 0, "A", impl.FaultForm, "A")
}

func TestLoadFaultCircle(t *testing.T) {
	circle := func(what string, told string, name string, list ...impl.Loader) {
		t.Helper()
		t.Log(what)
		wantLoadFault(t, worldOf(t, list...), 0, name, impl.FaultCircle, told)
	}
	way := func(name string, to int) impl.Way { return impl.Way{Name: name, To: to} }
	circle("its own face", "A", "A", loaderOf(t, -1, "class A Obj 5\nface A"))
	circle("what is above it is below it", "A", "A", loaderOf(t, -1, "class A B 0\n"+srcB))
	circle("that is told by the one that comes again", "B", "C", loaderOf(t, -1, "class C B 0\nclass A B 0\n"+srcB))
	circle("a face that is below it", "F", "F", loaderOf(t, -1, "class F Obj 5\nface G\nclass G Obj 5\nface F"))
	circle("by another loader that makes the same", "A", "A", loaderOf(t, -1, "class A B 0", way("B", 1)), loaderOf(t, -1, "class B A 0", way("A", 0)))
	circle("a way to itself", "A", "A", loaderOf(t, -1, srcA, way("A", 0)))
	circle("its own parent", "B", "B", impl.Loader{Parent: 0})
	circle("two ways", "A", "A", loaderOf(t, -1, "", way("A", 1)), loaderOf(t, -1, "", way("A", 0)))
	circle("three loaders, but not the first", "A", "A", impl.Loader{Parent: 1}, impl.Loader{Parent: 2}, loaderOf(t, -1, srcA, way("A", 1)))
	circle("a way and a parent", "A", "A", impl.Loader{Parent: 1}, loaderOf(t, -1, srcA, way("A", 0)))
	circle("who asked is asked for it while it is made", "A", "A", loaderOf(t, -1, "class B A 0", way("A", 1)), loaderOf(t, -1, "class A B 0", way("B", 0)))
	// One loader may be asked for two names on one way, and two may make one name each.
	w, class := load(t, worldOf(t, loaderOf(t, -1, "class A B 0", way("B", 1)), loaderOf(t, 0, "class B C 0"), impl.Loader{Parent: 1}), 2, "Obj")
	if class != 0 {
		t.Error(class)
	}
	wantLoadFault(t, w, 0, "A", impl.FaultNone, "C")
	w, _ = load(t, worldOf(t, loaderOf(t, -1, "class A B 0", way("B", 1)), loaderOf(t, -1, "class B C 0\nclass A Obj 0", way("C", 2)), loaderOf(t, -1, "class C A 0", way("A", 1))), 0, "A")
	if names(w) != "1:A 2:C 1:B 0:A" || known(w) != "1:A=2 2:A=2 2:C=3 1:C=3 1:B=4 0:B=4 0:A=5" {
		t.Error(names(w), known(w))
	}
}

func TestLoadFaultKind(t *testing.T) {
	src := srcF + "class L Obj 2\nclass H Obj 4\n"
	kind := func(made string, fault bool) {
		t.Helper()
		w := worldOf(t, loaderOf(t, -1, src), loaderOf(t, 0, "class A "+made))
		if fault {
			wantLoadFault(t, w, 1, "A", impl.FaultKind, "A")
			x := worldOf(t, loaderOf(t, -1, src), loaderOf(t, 0, "class A "+made+"\nclass B A 0"))
			wantLoadFault(t, x, 1, "B", impl.FaultKind, "A")
			return
		}
		load(t, w, 1, "A")
	}
	kind("Obj 0", false)
	kind("Err 0", false)
	kind("H 0", false)
	kind("F 0", true)
	kind("L 0", true)
	kind("Obj 0\nface F", false)
	kind("Obj 0\nface H", true)
	kind("Obj 0\nface L", true)
	kind("Obj 0\nface Obj", true)
	kind("Obj 0\nface Err", true)
	kind("Obj 5\nface F", false)
	kind("Obj 5\nface F\nface H", true)
	// What is above comes first, then each face, one by one.
	wantLoadFault(t, worldOf(t, loaderOf(t, -1, "class A F 0\nface Q\n"+srcF)), 0, "A", impl.FaultKind, "A")
	wantLoadFault(t, worldOf(t, loaderOf(t, -1, "class A Q 0\nface H\nclass H Obj 0")), 0, "A", impl.FaultNone, "Q")
	wantLoadFault(t, worldOf(t, loaderOf(t, -1, "class A Obj 0\nface H\nface Q\nclass H Obj 0")), 0, "A", impl.FaultKind, "A")
	wantLoadFault(t, worldOf(t, loaderOf(t, -1, "class A Obj 0\nface Q\nface H\nclass H Obj 0")), 0, "A", impl.FaultNone, "Q")
}

// chain is classes N1, N2 .. of loaders of five files each, each below the one ahead.
func chain(t *testing.T, many int) []impl.Loader {
	list := []impl.Loader{{Parent: 1}, {Parent: 2}, {Parent: -1}}
	above := "Obj"
	for i := range many {
		name := fmt.Sprint("N", i+1)
		at := 2 - i/impl.FilesMax
		list[at].Files = append(list[at].Files, fileOf(t, "class "+name+" "+above+" 0"))
		above = name
	}
	return list
}

func TestLoadFaultFull(t *testing.T) {
	w, class := load(t, worldOf(t, chain(t, 12)...), 0, "N10")
	if class != impl.ClassMax-1 || len(w.Classes) != impl.ClassMax || !impl.WorldOk(w) {
		t.Fatal(class)
	}
	wantLoadFault(t, w, 0, "N11", impl.FaultFull, "N11")
	wantLoadFault(t, w, 0, "N12", impl.FaultFull, "N11")
	wantLoadFault(t, worldOf(t, chain(t, 12)...), 0, "N12", impl.FaultFull, "N11")
	w, _ = load(t, worldOf(t, chain(t, 12)...), 0, "N9")
	load(t, w, 0, "N10")
	// What is known can be noted still; what is above, and kinds, come ahead of that.
	list := chain(t, 10)
	list[0].Files = []impl.File{fileOf(t, "class X Q 0"), fileOf(t, "class Y Obj 0\nface N1"), {Name: "Z", Text: "z"}}
	w, _ = load(t, worldOf(t, list...), 1, "N10")
	x, class := load(t, w, 0, "N10")
	if class != 11 || len(x.Known) != len(w.Known)+1 {
		t.Error(known(x))
	}
	wantLoadFault(t, w, 0, "X", impl.FaultNone, "Q")
	wantLoadFault(t, w, 0, "Y", impl.FaultKind, "Y")
	wantLoadFault(t, w, 0, "Z", impl.FaultForm, "Z")
	// A full world comes ahead of a bond.
	list = chain(t, 9)
	list[0].Files = []impl.File{fileOf(t, srcA), fileOf(t, "class V Obj 0")}
	list[1].Files = append(list[1].Files, fileOf(t, srcA))
	w = bound(t, loadAll(t, worldOf(t, list...), 1, "N9", "A"), 0, 1, "A")
	wantLoadFault(t, w, 0, "A", impl.FaultFull, "A")
	wantLoadFault(t, w, 0, "V", impl.FaultFull, "V")
}

func TestLoadFaultBond(t *testing.T) {
	a := loaderOf(t, -1, srcA)
	w := bound(t, worldOf(t, a, loaderOf(t, -1, srcA+srcB), impl.Loader{Parent: 1}), 0, 1, "A")
	x, _ := load(t, w, 0, "A")
	if bonds(x) != "A:01=2" {
		t.Error(bonds(x))
	}
	wantLoadFault(t, x, 1, "A", impl.FaultBond, "A")
	wantLoadFault(t, x, 1, "B", impl.FaultBond, "A")
	wantLoadFault(t, x, 2, "A", impl.FaultBond, "A")
	// Who is given it by another one is bound, too.
	w = bound(t, worldOf(t, a, a, impl.Loader{Parent: 1}), 0, 2, "A")
	x, _ = load(t, w, 0, "A")
	wantLoadFault(t, x, 2, "A", impl.FaultBond, "A")
	if y, class := load(t, x, 1, "A"); class != 3 || bonds(y) != "A:02=2" {
		t.Error(bonds(y))
	}
	x, _ = load(t, w, 2, "A")
	if bonds(x) != "A:02=2" || known(x) != "1:A=2 2:A=2" {
		t.Error(bonds(x), known(x))
	}
	wantLoadFault(t, x, 0, "A", impl.FaultBond, "A")
	// Another name is not bound.
	w = bound(t, worldOf(t, a, a), 0, 1, "B")
	if x := loadAll(t, loadAll(t, w, 0, "A"), 1, "A"); bonds(x) != "B:01=-1" || names(x) != "0:A 1:A" {
		t.Error(bonds(x), names(x))
	}
}

// Two loaders mean two classes by one name.
func TestLoadTwoOfOneName(t *testing.T) {
	w := worldOf(t, loaderOf(t, -1, srcA+srcB), loaderOf(t, 0, srcA+"class C A 0"), loaderOf(t, 1, "class D B 0\nclass E A 0"))
	w = loadAll(t, w, 0, "B")
	w = loadAll(t, w, 1, "C")
	w = loadAll(t, w, 2, "D", "E")
	if names(w) != "0:A 0:B 1:A 1:C 2:D 2:E" || w.Classes[5].Super != 4 || w.Classes[6].Super != 3 || w.Classes[7].Super != 4 {
		t.Error(names(w), w.Classes)
	}
	if !impl.WorldSub(w, 7, 4) || impl.WorldSub(w, 7, 2) || !impl.WorldSub(w, 6, 2) || impl.WorldSub(w, 6, 4) {
		t.Error("below")
	}
}

// randomLoaders are loaders of classes A to E that are below each other in any way.
func randomLoaders(t *testing.T, d *dice) []impl.Loader {
	letters := []string{"A", "B", "C", "D", "E"}
	many := 1 + d.below(impl.LoaderMax)
	var out []impl.Loader
	for i := range many {
		l := impl.Loader{Parent: d.below(many+1) - 1}
		if d.below(3) > 0 {
			l.Parent = i - 1
		}
		for n, name := range letters {
			if d.below(2) == 0 {
				l.Files = append(l.Files, fileOf(t, randomSource(d, name, letters[:n])))
			}
			if d.below(8) == 0 && len(l.Ways) < impl.WaysMax {
				l.Ways = append(l.Ways, impl.Way{Name: name, To: d.below(many)})
			}
		}
		for at := range l.Files {
			if other := d.below(len(l.Files)); d.below(2) == 0 {
				l.Files[at], l.Files[other] = l.Files[other], l.Files[at]
			}
		}
		out = append(out, l)
	}
	return out
}

// randomSource is a class, or, of some names, a face.
func randomSource(d *dice, name string, above []string) string {
	isFace := func(s string) bool { return s == "A" || s == "C" }
	flags, super, src := 0, "Obj", ""
	if isFace(name) {
		flags = 5
	}
	for _, o := range above {
		if isFace(o) && d.below(2) == 0 {
			src += "face " + o + "\n"
		} else if !isFace(o) && !isFace(name) && d.below(2) == 0 {
			super = o
		}
	}
	methods := []string{"(LB;)V", "()LD;", "(LE;I)V"}
	for i, desc := range methods {
		if d.below(3) > 0 {
			continue
		}
		src += fmt.Sprint("method m", i, " ", desc, " ")
		if isFace(name) {
			src += "8\n"
			continue
		}
		src += d.pick([]string{"0", "0", "4", "4", "1", "2"}) + " 2 4\n" + d.pick([]string{"null\nthrow\n", "null\nthrow\n", "new D\nstatic A m0 (LB;)V\nnull\nthrow\n"})
	}
	for i := range d.below(3) {
		mem := 0
		if isFace(name) || d.below(3) == 0 {
			mem = impl.MemStatic
		}
		src = fmt.Sprint("field f", i, " ", d.pick([]string{"I", "LB;"}), " ", mem, "\n") + src
	}
	return fmt.Sprint("class ", name, " ", super, " ", flags, "\n", src)
}

// randomWorld is a world that was come to by some calls.
func randomWorld(t *testing.T, d *dice) impl.World {
	w := impl.WorldNew(randomLoaders(t, d))
	for range d.below(12) {
		var x impl.World
		var fault impl.Fault
		switch d.below(4) {
		case 0, 1:
			x, _, fault = impl.WorldLoad(w, d.below(len(w.Loaders)), randomName(d))
		case 2:
			x, fault = impl.WorldBind(w, d.below(len(w.Loaders)), d.below(len(w.Loaders)), randomName(d))
		case 3:
			x, fault = impl.WorldLink(w, d.below(len(w.Classes)))
		}
		if fault != (impl.Fault{}) && !same(x, w) {
			t.Fatal("with a fault the world is not as it was", fault)
		}
		w = x
	}
	return w
}

func randomName(d *dice) string {
	return d.pick([]string{"A", "B", "C", "D", "E", "E", "Q", "Obj", "Err"})
}

// Promises 12 and 14.
func TestLoadStays(t *testing.T) {
	faults := map[int]int{}
	for seed := range 3000 {
		d := newDice(seed)
		w := randomWorld(t, d)
		loader, name := d.below(len(w.Loaders)), randomName(d)
		x, class, fault := impl.WorldLoad(w, loader, name)
		faults[fault.Code]++
		if fault.Code != impl.FaultFine {
			if class != -1 || !same(x, w) {
				t.Fatal(seed, fault)
			}
			continue
		}
		if !impl.WorldOk(x) || x.Classes[class].Name != name || !same(x.Classes[:len(w.Classes)], w.Classes) || !same(x.Known[:len(w.Known)], w.Known) {
			t.Fatal(seed, names(x), known(x))
		}
		y, again, fault := impl.WorldLoad(x, loader, name)
		if !same(y, x) || again != class || fault != (impl.Fault{}) {
			t.Fatal(seed, again, fault)
		}
		for at, c := range x.Classes[2:] {
			for _, above := range append([]int{c.Super}, c.Faces...) {
				if above >= at+2 || !impl.WorldSub(x, at+2, above) || impl.WorldSub(x, above, at+2) {
					t.Fatal(seed, at+2, above)
				}
			}
			if _, got := load(t, x, c.Loader, c.Name); got != at+2 {
				t.Fatal(seed, got)
			}
		}
	}
	for _, code := range []int{impl.FaultFine, impl.FaultNone, impl.FaultCircle} {
		if faults[code] < 20 {
			t.Error("too few worlds with", code, faults)
		}
	}
}

// Promise 13.
func TestLoadInEitherOrder(t *testing.T) {
	tell := func(w impl.World) []string {
		var out []string
		for _, c := range w.Classes {
			out = append(out, dump(impl.Cls{Name: c.Name, Loader: c.Loader, File: c.File}, false))
		}
		slices.Sort(out)
		return out
	}
	both := 0
	for seed := range 3000 {
		d := newDice(seed)
		w := impl.WorldNew(randomLoaders(t, d))
		a, b := d.below(len(w.Loaders)), d.below(len(w.Loaders))
		one, other := randomName(d), randomName(d)
		x, _, f := impl.WorldLoad(w, a, one)
		x, _, g := impl.WorldLoad(x, b, other)
		y, _, h := impl.WorldLoad(w, b, other)
		y, _, i := impl.WorldLoad(y, a, one)
		if f.Code+g.Code+h.Code+i.Code == 0 {
			if both++; !slices.Equal(tell(x), tell(y)) {
				t.Fatal(seed, names(x), names(y))
			}
		}
	}
	if both < 200 {
		t.Error("too few", both)
	}
}
