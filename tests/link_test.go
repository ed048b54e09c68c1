package tests

import (
	"fmt"
	"slices"
	"strings"
	"testing"

	"loop.example/stowage/impl"
)

// does is a method of a class, with a body that a proof lets be, whatever it gives back.
func does(name string, desc string, flags int) string {
	return fmt.Sprint("method ", name, " ", desc, " ", flags, " 1 5\nnull\nthrow\n")
}

// asks is a method that has no body.
func asks(name string, desc string) string {
	return fmt.Sprint("method ", name, " ", desc, " ", impl.MemAbstract, "\n")
}

// rows are the rows of a class, each as NAME DESC CLASS.AT.
func rows(c impl.Cls) string {
	var out []string
	for _, r := range c.Rows {
		out = append(out, fmt.Sprint(r.Name, r.Desc, " ", r.Class, ".", r.At))
	}
	return strings.Join(out, ", ")
}

func wantRows(t *testing.T, what string, c impl.Cls, want string) {
	t.Helper()
	if got := rows(c); got != want {
		t.Errorf("%s: %s, wanted %s", what, got, want)
	}
}

func TestLinkNothing(t *testing.T) {
	w, class := load(t, soundWorld(t), 1, "B")
	for first := range 2 {
		if x := linked(t, w, first); !same(x, w) {
			t.Error("linked already", first)
		}
	}
	x := linked(t, w, class)
	if y := linked(t, x, class); !same(y, x) {
		t.Error("again")
	}
	states := []int{}
	for _, c := range x.Classes {
		states = append(states, c.State)
	}
	// What is above is linked, too; faces stay as they are.
	if !slices.Equal(states, []int{2, 2, 2, 1, 1, 2}) || x.Classes[class].Begun != impl.BeginNone || x.Classes[2].Begun != impl.BeginNone {
		t.Error(states)
	}
	x.Classes[class] = w.Classes[class]
	x.Classes[2] = w.Classes[2]
	if !same(x, w) {
		t.Error("something else was changed")
	}
}

func TestLinkRows(t *testing.T) {
	src := "class A Obj 4\n" + does("f", "()V", 0) + does("p", "()V", impl.MemPrivate) + does("s", "()V", impl.MemStatic) + asks("g", "(I)V") + does("h", "()I", impl.MemFinal) +
		"class B A 0\n" + does("k", "()V", 0) + does("p", "()V", 0) + does("g", "(I)V", 0) + does("f", "()I", 0) + does("s", "()V", 0) +
		"class C B 0\n" + does("f", "()V", impl.MemFinal) + does("g", "(I)V", impl.MemPrivate) + does("k", "()V", impl.MemStatic) + does("p", "()V", impl.MemStatic+impl.MemPrivate) + does("h", "()V", 0) +
		"class D C 0\n"
	w, d := loadLinked(t, worldOf(t, loaderOf(t, -1, src)), 0, "D")
	wantRows(t, "A", w.Classes[2], "f()V 2.0, g(I)V 2.3, h()I 2.4")
	wantRows(t, "B", w.Classes[3], "f()V 2.0, g(I)V 3.2, h()I 2.4, k()V 3.0, p()V 3.1, f()I 3.3, s()V 3.4")
	wantRows(t, "C", w.Classes[4], "f()V 4.0, g(I)V 3.2, h()I 2.4, k()V 3.0, p()V 3.1, f()I 3.3, s()V 3.4, h()V 4.4")
	wantRows(t, "D", d, rows(w.Classes[4]))
	if len(w.Bonds) > 0 {
		t.Error("bonds of one loader", bonds(w))
	}
}

func TestLinkSlots(t *testing.T) {
	src := "class A Obj 0\nfield a I 0\nfield b LQ; 1\nfield c LQ; 2\nfield d I 3\n" + "class B A 0\nfield a I 1\nfield c LA; 0\nfield x LObj; 0\n" + "class C B 0\n"
	w, c := loadLinked(t, worldOf(t, loaderOf(t, -1, src)), 0, "C")
	number, ref := impl.Val{Tag: impl.TagInt}, impl.Val{Tag: impl.TagRef}
	a := []impl.Slot{{Class: 2, At: 0}, {Class: 2, At: 2}}
	b := append(a, impl.Slot{Class: 3, At: 1}, impl.Slot{Class: 3, At: 2})
	if !same(w.Classes[2].Slots, a) || !same(w.Classes[3].Slots, b) || !same(c.Slots, b) {
		t.Error(w.Classes[2].Slots, w.Classes[3].Slots, c.Slots)
	}
	if !same(w.Classes[2].Statics, []impl.Val{number, ref, ref, number}) || !same(w.Classes[3].Statics, []impl.Val{number, ref, ref}) || len(c.Statics) > 0 {
		t.Error(w.Classes[2].Statics, w.Classes[3].Statics, c.Statics)
	}
}

func TestLinkFace(t *testing.T) {
	src := "class F Obj 5\nfield a I 1\nfield b LQ; 1\n" + asks("f", "()V") + does("s", "()V", impl.MemStatic) + "class G Obj 5\nface F\n" + asks("f", "()V") +
		"class A Obj 4\nface G\n" + does("g", "()V", 0) + "class B A 0\n" + does("f", "()V", 0)
	w, g := loadLinked(t, worldOf(t, loaderOf(t, -1, src)), 0, "G")
	w, f := loadLinked(t, w, 0, "F")
	if len(g.Rows)+len(g.Slots)+len(g.Statics)+len(f.Rows)+len(f.Slots) > 0 || !same(f.Statics, []impl.Val{{Tag: impl.TagInt}, {Tag: impl.TagRef}}) {
		t.Error(f, g)
	}
	// A method of a face is no row of who has it.
	w, b := loadLinked(t, w, 0, "B")
	wantRows(t, "A", w.Classes[4], "g()V 4.0")
	wantRows(t, "B", b, "g()V 4.0, f()V 5.0")
}

func TestLinkFaultFinal(t *testing.T) {
	final := "class A Obj 0\n" + does("f", "(LA;)V", impl.MemFinal) + does("g", "()V", 0) + does("p", "()V", impl.MemFinal+impl.MemPrivate) + does("s", "()V", impl.MemFinal+impl.MemStatic)
	world := func(src string) impl.World { return worldOf(t, loaderOf(t, -1, final+src)) }
	fine := func(src string) {
		t.Helper()
		loadLinked(t, world("class B A 0\n"+src), 0, "B")
	}
	fine(does("g", "()V", 0))
	fine(does("f", "()V", 0))
	fine(does("f", "(LA;)V", impl.MemPrivate))
	fine(does("f", "(LA;)V", impl.MemStatic))
	fine(does("p", "()V", 0) + does("s", "()V", 0))
	fault := func(src string, name string, told string) {
		t.Helper()
		wantLinkFault(t, world(src), 0, name, impl.FaultFinal, told)
	}
	fault("class B A 0\n"+does("f", "(LA;)V", 0), "B", "B")
	fault("class B A 4\n"+asks("f", "(LA;)V"), "B", "B")
	fault("class B A 0\nclass C B 0\n"+does("g", "()V", 0)+does("f", "(LA;)V", impl.MemFinal), "C", "C")
	fault("class B A 0\n"+does("f", "(LA;)V", 0)+"class C B 0", "C", "B")
	fault("class B A 0\n"+does("g", "()V", impl.MemFinal)+"class C B 0\n"+does("g", "()V", 0), "C", "C")
	// It is looked for ahead of what a proof says.
	fault("class B A 0\nmethod x ()V 0 0 1\npop\n"+does("f", "(LA;)V", 0), "B", "B")
}

// Loaders are bound by all types of a method that stands in another one's place, in order.
func TestLinkBinds(t *testing.T) {
	desc := "(LX;ILY;LObj;)LZ;"
	top := loaderOf(t, -1, "class A Obj 0\n"+does("f", desc, 0)+does("g", "()LErr;", 0)+does("h", "()LV;", 0)+does("p", "(LP;)V", impl.MemPrivate))
	w := worldOf(t, top, loaderOf(t, 0, "class B A 0\n"+does("g", "()LErr;", 0)+does("f", desc, 0)+does("k", "(LK;)V", 0)+does("p", "(LP;)V", 0)), loaderOf(t, 1, "class C B 0\n"+does("h", "()LV;", 0)+does("f", "()LU;", 0)))
	w, c := loadLinked(t, w, 2, "C")
	wantBonds(t, "each in order, of whose row it is", w, "X:01=-1 Y:01=-1 Z:01=-1 V:02=-1")
	wantRows(t, "C", c, "f"+desc+" 3.1, g()LErr; 3.0, h()LV; 4.0, k(LK;)V 3.2, p(LP;)V 3.3, f()LU; 4.1")
	if x, _ := loadLinked(t, w, 1, "B"); !same(x, w) {
		t.Error("linked already")
	}
	// What one loader does alone binds nobody.
	w, _ = loadLinked(t, worldOf(t, loaderOf(t, -1, "class A Obj 0\n"+does("f", desc, 0)+"class B A 0\n"+does("f", desc, 0))), 0, "B")
	wantBonds(t, "one loader", w, "")
	// A type that is named twice is bound once, and comes behind all.
	w = worldOf(t, loaderOf(t, -1, "class A Obj 0\n"+does("f", "(LX;LY;)LX;", 0)), loaderOf(t, 0, "class B A 0\n"+does("f", "(LX;LY;)LX;", 0)))
	w, _ = loadLinked(t, w, 1, "B")
	wantBonds(t, "twice", w, "Y:01=-1 X:01=-1")
	// A bond has the class that one of them knows.
	w = worldOf(t, loaderOf(t, -1, "class A Obj 0\n"+does("f", "(LA;)V", 0)), loaderOf(t, 0, "class B A 0\n"+does("f", "(LA;)V", 0)))
	w, _ = loadLinked(t, w, 1, "B")
	wantBonds(t, "known", w, "A:01=2")
}

func TestLinkFaultBond(t *testing.T) {
	desc := "(LX;LY;)LZ;"
	list := func(more string) []impl.Loader {
		return []impl.Loader{loaderOf(t, -1, "class A Obj 0\n"+does("f", desc, 0)+does("g", "()V", impl.MemFinal)+"class X Obj 0\nclass Y Obj 0\nclass Z Obj 0"), loaderOf(t, 0, more+"class X Obj 0\nclass Y Obj 0\nclass Z Obj 0")}
	}
	src := "class B A 0\n" + does("f", desc, 0)
	for _, name := range []string{"X", "Y", "Z"} {
		w := loadAll(t, loadAll(t, worldOf(t, list(src)...), 0, name), 1, name)
		wantLinkFault(t, w, 1, "B", impl.FaultBond, name)
		x, _ := loadLinked(t, loadAll(t, worldOf(t, list(src)...), 1, name), 1, "B")
		wantLoadFault(t, x, 0, name, impl.FaultBond, name)
		loadLinked(t, worldOf(t, list(src+"class C A 0\n")...), 1, "C")
	}
	// The first of several is told; of one row MemFinal comes ahead, of two rows the one that is first.
	w := loadAll(t, loadAll(t, worldOf(t, list(src)...), 0, "X", "Y", "Z"), 1, "Z", "Y")
	wantLinkFault(t, w, 1, "B", impl.FaultBond, "Y")
	for what, src := range map[string]string{"B": "class B A 0\n" + does("g", "()V", 0) + does("f", desc, 0), "Y": "class B A 0\n" + does("f", desc, 0) + does("g", "()V", 0)} {
		w := loadAll(t, loadAll(t, worldOf(t, list(src)...), 0, "X", "Y", "Z"), 1, "Z", "Y")
		code := impl.FaultBond
		if what == "B" {
			code = impl.FaultFinal
		}
		wantLinkFault(t, w, 1, "B", code, what)
	}
	final := []impl.Loader{loaderOf(t, -1, "class A Obj 0\n"+does("f", "(LX;)V", impl.MemFinal)+"class X Obj 0"), loaderOf(t, 0, "class B A 0\n"+does("f", "(LX;)V", 0)+"class X Obj 0")}
	w = loadAll(t, loadAll(t, worldOf(t, final...), 0, "X"), 1, "X")
	wantLinkFault(t, w, 1, "B", impl.FaultFinal, "B")
	// A bond of a link goes on from one loader to the next.
	w = worldOf(t, loaderOf(t, -1, "class A Obj 0\n"+does("f", "(LX;)V", 0)+"class X Obj 0"), loaderOf(t, 0, "class B A 0\n"+does("f", "(LX;)V", 0)), loaderOf(t, 1, "class C B 0\n"+does("f", "(LX;)V", 0)+"class X Obj 0"))
	x, _ := loadLinked(t, loadAll(t, w, 2, "X"), 2, "C")
	wantBonds(t, "three", x, "X:012=2")
	wantLoadFault(t, x, 0, "X", impl.FaultBond, "X")
	wantLinkFault(t, loadAll(t, loadAll(t, w, 2, "X"), 0, "X"), 2, "C", impl.FaultBond, "X")
}

// A face whose method has a row of a class of another loader.
func TestLinkFaces(t *testing.T) {
	face := "class F Obj 5\n" + asks("f", "(LX;I)LY;") + asks("g", "(LU;)V") + does("s", "(LS;)V", impl.MemStatic)
	list := []impl.Loader{loaderOf(t, -1, face+"class X Obj 0"), loaderOf(t, 0, "class A Obj 0\n"+does("f", "(LX;I)LY;", 0)+does("s", "(LS;)V", 0)+"class B A 4\nface F\n"), loaderOf(t, 1, "class C A 0\nface F\n"+does("g", "(LU;)V", 0)+"class X Obj 0")}
	w, c := loadLinked(t, worldOf(t, list...), 2, "C")
	wantBonds(t, "who has the row, and the face", w, "X:01=-1 Y:01=-1 U:02=-1")
	wantRows(t, "C", c, "f(LX;I)LY; 2.0, s(LS;)V 2.1, g(LU;)V 4.0")
	w, _ = loadLinked(t, worldOf(t, list...), 1, "B")
	wantBonds(t, "no row of g, no bond by it", w, "X:01=-1 Y:01=-1")
	w, _ = loadLinked(t, worldOf(t, list...), 1, "A")
	wantBonds(t, "without the face", w, "")
	w = loadAll(t, loadAll(t, worldOf(t, loaderOf(t, -1, face+"class X Obj 0"), loaderOf(t, 0, "class A Obj 0\nface F\n"+does("f", "(LX;I)LY;", 0)+"class X Obj 0")), 0, "X"), 1, "X")
	wantLinkFault(t, w, 1, "A", impl.FaultBond, "X")
	// A private method is no row, nor is a row of another type one for the face.
	w, _ = loadLinked(t, worldOf(t, loaderOf(t, -1, face), loaderOf(t, 0, "class A Obj 0\nface F\n"+does("g", "(LU;)V", impl.MemPrivate)+does("f", "(LX;)LY;", 0))), 1, "A")
	wantBonds(t, "private", w, "")
	// An abstract method is a row.
	w, _ = loadLinked(t, worldOf(t, loaderOf(t, -1, face), loaderOf(t, 0, "class A Obj 4\nface F\n"+asks("g", "(LU;)V"))), 1, "A")
	wantBonds(t, "abstract", w, "U:01=-1")
	// A face has no rows, so it binds nobody.
	w, _ = loadLinked(t, worldOf(t, loaderOf(t, -1, face), loaderOf(t, 0, "class G Obj 5\nface F\n"+asks("g", "(LU;)V"))), 1, "G")
	wantBonds(t, "a face", w, "")
}

// Faces of what is above come first, then each face, then what it has; each once.
func TestLinkFacesInOrder(t *testing.T) {
	face := func(name string, has ...string) string {
		src := "class " + name + " Obj 5\n"
		for _, f := range has {
			src += "face " + f + "\n"
		}
		return src + asks("m"+name, "(L"+name+"1;)V")
	}
	faces := loaderOf(t, -1, face("P", "Q")+face("Q")+face("R", "T", "Q")+face("S", "P")+face("T"))
	own := ""
	for _, name := range []string{"T", "S", "R", "Q", "P"} {
		own += does("m"+name, "(L"+name+"1;)V", 0)
	}
	w, _ := loadLinked(t, worldOf(t, faces, loaderOf(t, 0, "class A Obj 0\nface S\nface R\n"+own)), 1, "A")
	wantBonds(t, "of one class", w, "S1:01=-1 P1:01=-1 Q1:01=-1 R1:01=-1 T1:01=-1")
	w, _ = loadLinked(t, worldOf(t, faces, loaderOf(t, 0, "class A B 0\nface P\nface S\n"+own+"class B C 0\nface R\nclass C Obj 0\nface T")), 1, "A")
	wantBonds(t, "of what is above first", w, "T1:01=-1 R1:01=-1 Q1:01=-1 P1:01=-1 S1:01=-1")
	// Each once: a face that comes again does not put its bonds behind all others.
	w, _ = loadLinked(t, worldOf(t, faces, loaderOf(t, 0, "class A B 0\nface T\nface Q\n"+own+"class B Obj 0\nface T")), 1, "A")
	wantBonds(t, "a face again", w, "T1:01=-1 Q1:01=-1")
	// What is above is laid out with its own rows first.
	w, _ = loadLinked(t, worldOf(t, faces, loaderOf(t, 0, "class B Obj 0\nface T\nface Q\n"+does("mQ", "(LQ1;)V", 0)), loaderOf(t, 1, "class A B 0\n"+does("mT", "(LT1;)V", 0)+does("mQ", "(LQ1;)V", 0))), 2, "A")
	wantBonds(t, "rows of two", w, "T1:02=-1 Q1:012=-1")
	// Methods of one face in order.
	w, _ = loadLinked(t, worldOf(t, loaderOf(t, -1, "class F Obj 5\n"+asks("b", "()LB1;")+asks("a", "()LA1;")), loaderOf(t, 0, "class A Obj 0\nface F\n"+does("a", "()LA1;", 0)+does("b", "()LB1;", 0))), 1, "A")
	wantBonds(t, "methods in order", w, "B1:01=-1 A1:01=-1")
}

// A link that would leave more than BondMax bonds is refused as WorldBind is.
func TestLinkMostBonds(t *testing.T) {
	w := worldOf(t, loaderOf(t, -1, "class A Obj 0\n"+does("f", "(LX;)LY;", 0)), loaderOf(t, 0, "class B A 0\n"+does("f", "(LX;)LY;", 0)))
	for i := range impl.BondMax - 2 {
		w = bound(t, w, 0, 1, fmt.Sprint("N", i))
	}
	x, _ := loadLinked(t, w, 1, "B")
	if len(x.Bonds) != impl.BondMax {
		t.Error(bonds(x))
	}
	wantLinkFault(t, bound(t, w, 0, 1, "M"), 1, "B", impl.FaultFull, "Y")
	wantLinkFault(t, bound(t, bound(t, w, 0, 1, "M"), 0, 1, "O"), 1, "B", impl.FaultFull, "X")
	loadLinked(t, bound(t, bound(t, w, 0, 1, "Y"), 0, 1, "X"), 1, "B")
	// What the document names as a fault of linking is told ahead of that.
	w = worldOf(t, loaderOf(t, -1, "class A Obj 0\n"+does("f", "(LX;)LY;", 0)), loaderOf(t, 0, "class B A 0\nmethod f (LX;)LY; 0 1 2\npop\n"))
	w.Bonds = otherBonds(impl.BondMax)
	wantLinkFault(t, w, 1, "B", impl.FaultProof, "B")
}

// What is above is linked first, and its fault is told.
func TestLinkAbove(t *testing.T) {
	bad := "method x ()V 0 0 1\npop\n"
	w := worldOf(t, loaderOf(t, -1, "class A Obj 0\n"+bad+"class B A 0\n"+bad+"class C Obj 0\nclass F Obj 5\nmethod x ()V 1 0 0\npop\nclass D C 0\nface F\n"))
	wantLinkFault(t, w, 0, "B", impl.FaultProof, "A")
	wantLinkFault(t, w, 0, "F", impl.FaultProof, "F")
	// Faces are not linked with who has them.
	x, _ := loadLinked(t, w, 0, "D")
	if names(x) != "0:C 0:F 0:D" || x.Classes[3].State != impl.StateLoaded {
		t.Error(names(x))
	}
}

// Promises 19, 20 and 21.
func TestLinkStays(t *testing.T) {
	codes := map[int]int{}
	for seed := range 4000 {
		d := newDice(seed)
		w := randomWorld(t, d)
		for range 3 {
			w, _, _ = impl.WorldLoad(w, d.below(len(w.Loaders)), randomName(d))
		}
		class := len(w.Classes) - 1 - d.below(len(w.Classes)+1)/2
		x, fault := impl.WorldLink(w, class)
		codes[fault.Code]++
		if fault.Code != impl.FaultFine {
			if !same(x, w) {
				t.Fatal(seed, fault)
			}
			continue
		}
		if y, g := impl.WorldLink(x, class); !same(y, x) || g != (impl.Fault{}) || !impl.WorldOk(x) {
			t.Fatal(seed, g)
		}
		for at := class; at != -1; at = x.Classes[at].Super {
			if x.Classes[at].State != impl.StateLinked {
				t.Fatal(seed, at)
			}
		}
		for at, c := range x.Classes[2:] {
			if c.State == impl.StateLinked {
				wantLaidOut(t, x, at+2)
			}
		}
	}
	for _, code := range []int{impl.FaultFine, impl.FaultNone, impl.FaultCircle, impl.FaultFinal, impl.FaultProof} {
		if codes[code] < 5 {
			t.Error("too few worlds with", code, codes)
		}
	}
}

func wantLaidOut(t *testing.T, w impl.World, class int) {
	t.Helper()
	c := w.Classes[class]
	above := w.Classes[c.Super]
	for i, r := range c.Rows {
		m := w.Classes[r.Class].File.Methods[r.At]
		if i < len(above.Rows) {
			a := above.Rows[i]
			isOwn := r.Class == class && w.Classes[a.Class].File.Methods[a.At].Flags&impl.MemFinal == 0
			if a.Name != r.Name || a.Desc != r.Desc || r != a && !isOwn {
				t.Fatal("row", i, a, r)
			}
		} else if r.Class != class {
			t.Fatal("row", i, r)
		}
		if m.Flags&(impl.MemStatic+impl.MemPrivate) != 0 || !impl.WorldSub(w, class, r.Class) {
			t.Fatal("row", i, r)
		}
	}
	if len(c.Rows) < len(above.Rows) || len(c.Statics) != len(c.File.Fields) || !same(c.Slots[:len(above.Slots)], above.Slots) {
		t.Fatal("rows, statics or slots", c)
	}
	own := c.Slots[len(above.Slots):]
	for at, f := range c.File.Fields {
		if slices.Contains(own, impl.Slot{Class: class, At: at}) != (f.Flags&impl.MemStatic == 0) {
			t.Fatal("slot", at, own)
		}
	}
}
