package tests

import (
	"fmt"
	"math"
	"reflect"
	"slices"
	"strings"
	"testing"

	"loop.example/stowage/impl"
)

// Places of classes in richWorld.
const (
	richA = 2
	richF = 3
	richB = 4
	richG = 5
	richC = 6
)

// richWorld has classes that were brought and linked, faces, bonds with a class and without one.
func richWorld(t *testing.T) impl.World {
	t.Helper()
	w := worldOf(t,
		loaderOf(t, -1, "class A Obj 0\nfield n I 1\nfield r LA; 0\nfield s LA; 1\n"+does("f", "(LX;)V", 0)+"class F Obj 5\n"+asks("g", "()LY;")),
		loaderOf(t, 0, "class B A 0\nface F\nfield k I 0\n"+does("f", "(LX;)V", 0)+does("g", "()LY;", 0)+"class C B 0\nface F\nface G\n"+"class G Obj 5\nface F\n"+"class L Obj 2\n"),
		impl.Loader{Parent: 1, Ways: []impl.Way{{Name: "A", To: 0}}})
	w, b := load(t, w, 1, "B")
	w = linked(t, w, b)
	w, c := load(t, w, 1, "G")
	w, c = load(t, w, 1, "C")
	if names(w) != "0:A 0:F 1:B 1:G 1:C" || c != 6 {
		t.Fatal(names(w))
	}
	w = bound(t, loadAll(t, w, 2, "A", "G"), 0, 2, "A")
	if bonds(w) != "X:01=-1 Y:01=-1 A:02=2" {
		t.Fatal(bonds(w))
	}
	return w
}

// worldTurn is a turn of richWorld, and why the world is not ok then.
type worldTurn struct {
	name string
	turn func(w *impl.World)
}

func class(at int, turn func(c *impl.Cls)) func(w *impl.World) {
	return func(w *impl.World) { turn(&w.Classes[at]) }
}

// firstTurns are of the two classes that are always there.
func firstTurns() []worldTurn {
	var out []worldTurn
	for at := range 2 {
		for name, turn := range map[string]func(c *impl.Cls){
			"Name":        func(c *impl.Cls) { c.Name = "A" },
			"Loader":      func(c *impl.Cls) { c.Loader = 0 },
			"Super":       func(c *impl.Cls) { c.Super = -1 - c.Super },
			"File.Flags":  func(c *impl.Cls) { c.File.Flags = 1 },
			"File.Name":   func(c *impl.Cls) { c.File.Name = 1 },
			"File.Pool":   func(c *impl.Cls) { c.File.Pool = []impl.Const{{Kind: 1, Text: "A"}} },
			"File, no":    func(c *impl.Cls) { c.File.Flags = -1 },
			"Faces":       func(c *impl.Cls) { c.Faces = []int{richF} },
			"StateLoaded": func(c *impl.Cls) { c.State = impl.StateLoaded },
			"State 3":     func(c *impl.Cls) { c.State = 3 },
			"Begun":       func(c *impl.Cls) { c.Begun = impl.BeginNone },
			"Slots":       func(c *impl.Cls) { c.Slots = []impl.Slot{{}} },
			"Rows":        func(c *impl.Cls) { c.Rows = []impl.Row{{}} },
			"Statics":     func(c *impl.Cls) { c.Statics = []impl.Val{{Tag: 1}} },
		} {
			out = append(out, worldTurn{fmt.Sprint(name, " of the first ", at), class(at, turn)})
		}
	}
	return out
}

// madeTurns are of what a class is made of, and of what is above it.
func madeTurns() []worldTurn {
	file := func(text string) func(w *impl.World) {
		return func(w *impl.World) {
			w.Loaders[1].Files[1].Text = text
			w.Classes[richC].File, _ = impl.FileGet(text)
		}
	}
	put := func(src string) string { return impl.FilePut(classOf(src)) }
	drop := func(loader int, name string) func(w *impl.World) {
		return func(w *impl.World) {
			w.Known = slices.DeleteFunc(w.Known, func(k impl.Known) bool { return k.Loader == loader && k.Name == name })
		}
	}
	return []worldTurn{
		{"a loader that is nobody", class(richG, func(c *impl.Cls) { c.Loader = -1 })},
		{"a loader that is not there", class(richG, func(c *impl.Cls) { c.Loader = 3 })},
		{"another loader", class(richG, func(c *impl.Cls) { c.Loader = 0 })},
		{"another name", class(richG, func(c *impl.Cls) { c.Name = "L" })},
		{"the name Obj", class(richG, func(c *impl.Cls) { c.Name = "Obj" })},
		{"no file of it", func(w *impl.World) { w.Loaders[1].Files[1].Name = "K" }},
		{"a way for it", func(w *impl.World) { w.Loaders[1].Ways = []impl.Way{{Name: "C", To: 0}} }},
		{"a file that cannot be read", func(w *impl.World) { w.Loaders[1].Files[1].Text += "x" }},
		{"a file that says something else", func(w *impl.World) { w.Loaders[1].Files[1].Text = put("class C B 0\nface F\nface G\nfield x I 0") }},
		{"a file of another name", file(put("class K B 0\nface F\nface G"))},
		{"a file with what is wrong", file(put("class C B 8\nface F\nface G"))},
		{"an empty file, and nothing of it", file("")},
		{"File with one more entry", class(richG, func(c *impl.Cls) { c.File.Pool = append(c.File.Pool, impl.Const{Kind: 1, Text: "A"}) })},
		{"File with another flag", class(richG, func(c *impl.Cls) { c.File.Flags = 2 })},
		{"no File", class(richG, func(c *impl.Cls) { c.File = impl.Class{} })},
		{"a class that its loader does not know", drop(1, "C")},
		{"what is above it is not known", drop(1, "A")},
		{"what is above it is not known by its own loader", drop(1, "B")},
		{"a face that is not known", drop(1, "F")},
		{"another class above it", class(richC, func(c *impl.Cls) { c.Super = richA })},
		{"Obj above it", class(richC, func(c *impl.Cls) { c.Super = impl.ClassObj })},
		{"nobody above it", class(richC, func(c *impl.Cls) { c.Super = -1 })},
		{"itself above it", class(richC, func(c *impl.Cls) { c.Super = richC })},
		{"what is not there above it", class(richC, func(c *impl.Cls) { c.Super = 99 })},
		{"nobody above it who is not known", func(w *impl.World) {
			file(put("class C Q 0\nface F\nface G"))(w)
			w.Classes[richC].Super = -1
		}},
		{"what is final above it", func(w *impl.World) {
			file(put("class C L 0\nface F\nface G"))(w)
			l, _ := impl.FileGet(w.Loaders[1].Files[3].Text)
			w.Classes = append(w.Classes, w.Classes[richC])
			w.Classes[richC] = impl.Cls{Name: "L", Loader: 1, File: l, State: 1}
			w.Classes[7].Super = richC
			for i, k := range w.Known {
				if k.Name == "C" {
					w.Known[i].Class = 7
				}
			}
			w.Known = append(w.Known, impl.Known{Loader: 1, Name: "L", Class: richC})
		}},
		{"a face above it", func(w *impl.World) {
			file(put("class C F 0\nface F\nface G"))(w)
			w.Classes[richC].Super = richF
		}},
		{"what has no FlagFace as a face", func(w *impl.World) {
			file(put("class C B 0\nface B\nface G"))(w)
			w.Classes[richC].Faces = []int{richB, richG}
		}},
		{"one face less", class(richC, func(c *impl.Cls) { c.Faces = c.Faces[:1] })},
		{"no faces", class(richC, func(c *impl.Cls) { c.Faces = nil })},
		{"one face more", class(richC, func(c *impl.Cls) { c.Faces = append(c.Faces, richF) })},
		{"faces turned", class(richC, func(c *impl.Cls) { c.Faces[0], c.Faces[1] = c.Faces[1], c.Faces[0] })},
		{"a face below 0", class(richC, func(c *impl.Cls) { c.Faces[0] = -1 })},
		{"a face that is not there", class(richC, func(c *impl.Cls) { c.Faces[1] = 99 })},
	}
}

// stateTurns are of what was laid out.
func stateTurns() []worldTurn {
	return []worldTurn{
		{"no state", class(richC, func(c *impl.Cls) { c.State = 0 })},
		{"a state that is none", class(richC, func(c *impl.Cls) { c.State = 3 })},
		{"a linked one without a state", class(richB, func(c *impl.Cls) { c.State = 0 })},
		{"linked, but not laid out", class(richC, func(c *impl.Cls) { c.State = impl.StateLinked })},
		{"laid out, but not linked", class(richB, func(c *impl.Cls) { c.State = impl.StateLoaded })},
		{"slots ahead of linking", class(richC, func(c *impl.Cls) { c.Slots = []impl.Slot{{Class: richA, At: 1}} })},
		{"rows ahead of linking", class(richC, func(c *impl.Cls) { c.Rows = []impl.Row{{Name: "f"}} })},
		{"statics ahead of linking", class(richC, func(c *impl.Cls) { c.Statics = []impl.Val{{Tag: impl.TagInt}} })},
		{"begun ahead of linking", class(richC, func(c *impl.Cls) { c.Begun = impl.BeginRuns })},
		{"what is above is not linked", func(w *impl.World) {
			a := &w.Classes[richA]
			a.State, a.Slots, a.Rows, a.Statics = impl.StateLoaded, nil, nil, nil
		}},
		{"what is above is not linked, though nothing is laid out", func(w *impl.World) {
			a, b := &w.Classes[richA], &w.Classes[richB]
			a.State, a.Slots, a.Rows, a.Statics = impl.StateLoaded, nil, nil, nil
			b.Slots = []impl.Slot{{Class: richB, At: 0}}
			b.Rows = []impl.Row{{Name: "f", Desc: "(LX;)V", Class: richB, At: 0}, {Name: "g", Desc: "()LY;", Class: richB, At: 1}}
		}},
		{"begun below 0", class(richB, func(c *impl.Cls) { c.Begun = -1 })},
		{"begun above all", class(richB, func(c *impl.Cls) { c.Begun = 4 })},
		{"one slot less", class(richB, func(c *impl.Cls) { c.Slots = c.Slots[:1] })},
		{"one slot more", class(richB, func(c *impl.Cls) { c.Slots = append(c.Slots, impl.Slot{}) })},
		{"slots turned", class(richB, func(c *impl.Cls) { c.Slots[0], c.Slots[1] = c.Slots[1], c.Slots[0] })},
		{"another slot", class(richB, func(c *impl.Cls) { c.Slots[0].At = 0 })},
		{"one row less", class(richB, func(c *impl.Cls) { c.Rows = c.Rows[:1] })},
		{"rows turned", class(richB, func(c *impl.Cls) { c.Rows[0], c.Rows[1] = c.Rows[1], c.Rows[0] })},
		{"the row of what is above", func(w *impl.World) { w.Classes[richB].Rows[0] = w.Classes[richA].Rows[0] }},
		{"a row's name", class(richB, func(c *impl.Cls) { c.Rows[0].Name = "x" })},
		{"a row's type", class(richB, func(c *impl.Cls) { c.Rows[0].Desc = "()V" })},
		{"a row's class", class(richB, func(c *impl.Cls) { c.Rows[1].Class = richA })},
		{"a row's place", class(richB, func(c *impl.Cls) { c.Rows[1].At = 0 })},
		{"a row that is nowhere", class(richA, func(c *impl.Cls) { c.Rows[0].At = 99 })},
		{"one of Statics less", class(richA, func(c *impl.Cls) { c.Statics = c.Statics[:2] })},
		{"one of Statics more", class(richA, func(c *impl.Cls) { c.Statics = append(c.Statics, impl.Val{Tag: impl.TagInt}) })},
		{"a number for an object", class(richA, func(c *impl.Cls) { c.Statics[2].Tag = impl.TagInt })},
		{"an object for a number", class(richA, func(c *impl.Cls) { c.Statics[0].Tag = impl.TagRef })},
		{"no tag", class(richA, func(c *impl.Cls) { c.Statics[0].Tag = impl.TagNone })},
		{"a tag of no object", class(richA, func(c *impl.Cls) { c.Statics[2].Tag = impl.TagNull })},
		{"an object", class(richA, func(c *impl.Cls) { c.Statics[2].Num = 1 })},
		{"an object in a field of objects", class(richA, func(c *impl.Cls) { c.Statics[1].Num = 1 })},
		{"a number of 33 bits", class(richA, func(c *impl.Cls) { c.Statics[0].Num = math.MaxInt32 + 1 })},
		{"a number of 33 bits below 0", class(richA, func(c *impl.Cls) { c.Statics[0].Num = math.MinInt32 - 1 })},
		{"loaders of a row that mean two classes", func(w *impl.World) {
			w.Bonds = w.Bonds[2:]
			bare := func(loader int) impl.Cls {
				w.Loaders[loader].Files = append(w.Loaders[loader].Files, impl.File{Name: "X", Text: impl.FilePut(classOf("class X Obj 0"))})
				return impl.Cls{Name: "X", Loader: loader, File: classOf("class X Obj 0"), State: impl.StateLoaded}
			}
			w.Classes = append(w.Classes, bare(0), bare(1))
			w.Known = append(w.Known, impl.Known{Loader: 0, Name: "X", Class: 7}, impl.Known{Loader: 1, Name: "X", Class: 8})
		}},
		{"a final row that has another one in its place", func(w *impl.World) {
			c := classOf("class A Obj 0\nfield n I 1\nfield r LA; 0\nfield s LA; 1\n" + does("f", "(LX;)V", impl.MemFinal))
			w.Classes[richA].File, w.Loaders[0].Files[0].Text = c, impl.FilePut(c)
		}},
	}
}

// tableTurns are of what is known, of bonds, and of how many there are.
func tableTurns() []worldTurn {
	bond := func(b impl.Bond) func(w *impl.World) {
		return func(w *impl.World) { w.Bonds = append(w.Bonds, b) }
	}
	knows := func(k impl.Known) func(w *impl.World) {
		return func(w *impl.World) { w.Known = append(w.Known, k) }
	}
	two := func() []int { return []int{0, 1} }
	return []worldTurn{
		{"no classes", func(w *impl.World) { w.Classes, w.Known, w.Bonds = nil, nil, nil }},
		{"one class", func(w *impl.World) { w.Classes, w.Known, w.Bonds = w.Classes[:1], nil, nil }},
		{"nothing", func(w *impl.World) { *w = impl.World{} }},
		{"known by nobody", knows(impl.Known{Loader: -1, Name: "B", Class: richB})},
		{"known by a loader that is not there", knows(impl.Known{Loader: 3, Name: "B", Class: richB})},
		{"Obj is known", knows(impl.Known{Loader: 0, Name: "Obj", Class: impl.ClassObj})},
		{"Err is known", knows(impl.Known{Loader: 0, Name: "Err", Class: impl.ClassErr})},
		{"no class is known", knows(impl.Known{Loader: 0, Name: "B", Class: -1})},
		{"a class is known that is not there", knows(impl.Known{Loader: 0, Name: "B", Class: 7})},
		{"known by another name", knows(impl.Known{Loader: 0, Name: "K", Class: richB})},
		{"known twice", knows(impl.Known{Loader: 1, Name: "B", Class: richB})},
		{"known more than can be", func(w *impl.World) { w.Known = append(w.Known, many(37, w.Known[0])...) }},
		{"two classes by one name", func(w *impl.World) {
			w.Loaders[2].Ways = nil
			w.Loaders[2].Files = []impl.File{w.Loaders[0].Files[0]}
			w.Classes = append(w.Classes, w.Classes[richA])
			w.Classes[7].Loader, w.Classes[7].State, w.Classes[7].Slots, w.Classes[7].Rows, w.Classes[7].Statics = 2, 1, nil, nil, nil
			w.Known = append(w.Known, impl.Known{Loader: 2, Name: "A", Class: 7})
		}},
		{"a bond without a name", bond(impl.Bond{Loaders: two(), Class: -1})},
		{"a bond by what is no name", bond(impl.Bond{Name: "LA;", Loaders: two(), Class: -1})},
		{"a bond by Obj", bond(impl.Bond{Name: "Obj", Loaders: two(), Class: impl.ClassObj})},
		{"a bond by Obj, of no class", bond(impl.Bond{Name: "Obj", Loaders: two(), Class: -1})},
		{"a bond by Err", bond(impl.Bond{Name: "Err", Loaders: two(), Class: impl.ClassErr})},
		{"a bond by Err, of no class", bond(impl.Bond{Name: "Err", Loaders: two(), Class: -1})},
		{"a bond of nobody", bond(impl.Bond{Name: "Z", Class: -1})},
		{"a bond of one", bond(impl.Bond{Name: "Z", Loaders: []int{1}, Class: -1})},
		{"a bond that is not in order", bond(impl.Bond{Name: "Z", Loaders: []int{1, 0}, Class: -1})},
		{"a bond of one twice", bond(impl.Bond{Name: "Z", Loaders: []int{1, 1}, Class: -1})},
		{"a bond with nobody", bond(impl.Bond{Name: "Z", Loaders: []int{-1, 0}, Class: -1})},
		{"a bond with a loader that is not there", bond(impl.Bond{Name: "Z", Loaders: []int{0, 3}, Class: -1})},
		{"a loader's name in two bonds", bond(impl.Bond{Name: "X", Loaders: []int{1, 2}, Class: -1})},
		{"a bond twice", bond(impl.Bond{Name: "X", Loaders: two(), Class: -1})},
		{"a bond of a class that is known, without it", func(w *impl.World) { w.Bonds[2].Class = -1 }},
		{"a bond of another class than is known", func(w *impl.World) { w.Bonds[2].Class = richB }},
		{"a bond of a class that nobody knows by it", func(w *impl.World) { w.Bonds[0].Class = richA }},
		{"a bond of a class that is not there", func(w *impl.World) { w.Bonds[0].Class = 99 }},
		{"a bond of a class below -1", func(w *impl.World) { w.Bonds[0].Class = -2 }},
		{"a bond of loaders that know two classes", func(w *impl.World) {
			w.Loaders[2] = impl.Loader{Parent: 1, Files: []impl.File{w.Loaders[0].Files[0]}}
			w.Classes = append(w.Classes, impl.Cls{Name: "A", Loader: 2, File: w.Classes[richA].File, State: impl.StateLoaded})
			for i, k := range w.Known {
				if k.Loader == 2 && k.Name == "A" {
					w.Known[i].Class = 7
				}
			}
			w.Bonds[2].Class = 7
		}},
		{"more bonds than may be", func(w *impl.World) {
			for i := range impl.BondMax - 2 {
				w.Bonds = append(w.Bonds, impl.Bond{Name: fmt.Sprint("N", i), Loaders: two(), Class: -1})
			}
		}},
	}
}

func worldTurns() []worldTurn {
	return slices.Concat(firstTurns(), madeTurns(), stateTurns(), tableTurns())
}

// wantNotOk asks all that a world is asked, of one that is not ok.
func wantNotOk(t *testing.T, what string, w impl.World) {
	t.Helper()
	if impl.WorldOk(w) {
		t.Error("WorldOk of", what)
	}
	form := impl.Fault{Code: impl.FaultForm}
	if x, class, fault := impl.WorldLoad(w, 0, "A"); !same(x, impl.World{}) || class != -1 || fault != form {
		t.Error("WorldLoad of", what, class, fault)
	}
	if x, fault := impl.WorldBind(w, 0, 1, "A"); !same(x, impl.World{}) || fault != form {
		t.Error("WorldBind of", what, fault)
	}
	for class := range 8 {
		if x, fault := impl.WorldLink(w, class); !same(x, impl.World{}) || fault != form {
			t.Error("WorldLink of", what, fault)
		}
	}
	if impl.WorldSub(w, 0, 0) || impl.WorldSub(w, 1, 0) {
		t.Error("WorldSub of", what)
	}
}

func TestWorldNotOk(t *testing.T) {
	for _, turn := range worldTurns() {
		w := richWorld(t)
		turn.turn(&w)
		wantNotOk(t, turn.name, w)
	}
	for _, f := range loaderFaults {
		w := impl.WorldNew(soundLoaders(t))
		w.Loaders = f.turn(w.Loaders)
		wantNotOk(t, f.name, w)
	}
}

func TestWorldOk(t *testing.T) {
	fine := func(what string, turn func(w *impl.World)) {
		t.Helper()
		w := richWorld(t)
		if turn(&w); !impl.WorldOk(w) {
			t.Error(what)
		}
	}
	fine("as it is", func(w *impl.World) {})
	fine("begun in any way", func(w *impl.World) { w.Classes[richA].Begun, w.Classes[richB].Begun = impl.BeginFailed, impl.BeginRuns })
	fine("begun", func(w *impl.World) { w.Classes[richB].Begun = impl.BeginDone })
	fine("a number of 32 bits", func(w *impl.World) { w.Classes[richA].Statics[0].Num = math.MaxInt32 })
	fine("a number of 32 bits below 0", func(w *impl.World) { w.Classes[richA].Statics[0].Num = math.MinInt32 })
	fine("without bonds", func(w *impl.World) { w.Bonds = nil })
	fine("bonds in another order", func(w *impl.World) { slices.Reverse(w.Bonds) })
	fine("what is known in another order", func(w *impl.World) { slices.Reverse(w.Known) })
	fine("another file", func(w *impl.World) { w.Loaders[0].Files = append(w.Loaders[0].Files, impl.File{Name: "Z", Text: "z"}) })
	fine("empty lists", func(w *impl.World) {
		c := &w.Classes[richA]
		c.Faces, c.File.Faces = []int{}, []int{}
		c = &w.Classes[richC]
		c.Slots, c.Rows, c.Statics, c.File.Fields = []impl.Slot{}, []impl.Row{}, []impl.Val{}, []impl.Field{}
		c = &w.Classes[0]
		c.Slots, c.Rows, c.Statics, c.Faces, c.File.Pool = []impl.Slot{}, []impl.Row{}, []impl.Val{}, []int{}, []impl.Const{}
	})
	fine("a bond of all", func(w *impl.World) { w.Bonds[0].Loaders = []int{0, 1, 2} })
	fine("a bond of a loader that does not know it yet", func(w *impl.World) {
		w.Bonds[2].Loaders = []int{0, 1, 2}
		w.Bonds[0].Loaders = []int{0, 1}
	})
	fine("as many bonds as may be", func(w *impl.World) {
		for i := range impl.BondMax - 3 {
			w.Bonds = append(w.Bonds, impl.Bond{Name: fmt.Sprint("N", i), Loaders: []int{0, 2}, Class: -1})
		}
	})
	fine("a bond by another name", func(w *impl.World) { w.Bonds[1].Name = "XX" })
	fine("as many bonds of other names as may be", func(w *impl.World) { w.Bonds = otherBonds(impl.BondMax) })
	fine("a way for what another one makes", func(w *impl.World) { w.Loaders[0].Ways = []impl.Way{{Name: "B", To: 1}} })
}

// otherBonds are bonds by names that no class of richWorld names.
func otherBonds(many int) []impl.Bond {
	var out []impl.Bond
	for i := range many {
		out = append(out, impl.Bond{Name: fmt.Sprint("N", i), Loaders: []int{0, 1}, Class: -1})
	}
	return out
}

// What was linked is looked at without a place for its bonds, and these are not left in the world.
func TestWorldOtherBonds(t *testing.T) {
	w := richWorld(t)
	w.Bonds = otherBonds(impl.BondMax)
	if !impl.WorldSub(w, richB, richA) || impl.WorldSub(w, richA, richB) {
		t.Error("WorldSub")
	}
	if x := linked(t, w, richB); !same(x, w) {
		t.Error("what was linked", bonds(x))
	}
	x, class := load(t, w, 2, "B")
	if class != richB || !same(x.Bonds, w.Bonds) {
		t.Error("WorldLoad", class, bonds(x))
	}
	wantBindFault(t, w, 0, 1, "X", impl.FaultFull)
	// C binds nobody by names of its own, but what it has of B and F does.
	wantLinkFault(t, w, 1, "C", impl.FaultFull, "Y")
	if x := bound(t, w, 0, 2, "N0"); len(x.Bonds) != impl.BondMax {
		t.Error("WorldBind", bonds(x))
	}
	w.Bonds = otherBonds(impl.BondMax + 1)
	wantNotOk(t, "one bond of other names too many", w)
}

func TestWorldMostClasses(t *testing.T) {
	w, _ := load(t, worldOf(t, chain(t, 11)...), 0, "N10")
	if len(w.Classes) != impl.ClassMax || !impl.WorldOk(w) {
		t.Fatal(len(w.Classes))
	}
	file, _ := impl.FileGet(w.Loaders[0].Files[0].Text)
	w.Classes = append(w.Classes, impl.Cls{Name: "N11", Loader: 0, File: file, Super: 11, State: impl.StateLoaded})
	w.Known = append(w.Known, impl.Known{Loader: 0, Name: "N11", Class: 12})
	wantNotOk(t, "one class too many", w)
}

// Of a world that is ok: loaders that are not, what is no name, classes that are not there.
func TestWorldOddArguments(t *testing.T) {
	w := richWorld(t)
	form := impl.Fault{Code: impl.FaultForm}
	isForm := func(x impl.World, fault impl.Fault) bool { return same(x, impl.World{}) && fault == form }
	for _, n := range []int{-1, 3, -2, math.MinInt, math.MaxInt} {
		if x, class, fault := impl.WorldLoad(w, n, "A"); !isForm(x, fault) || class != -1 {
			t.Error("WorldLoad", n, class, fault)
		}
		if x, class, fault := impl.WorldLoad(w, n, "Obj"); !isForm(x, fault) || class != -1 {
			t.Error("WorldLoad of Obj", n, class, fault)
		}
		if x, fault := impl.WorldBind(w, n, 0, "A"); !isForm(x, fault) {
			t.Error("WorldBind", n, fault)
		}
		if x, fault := impl.WorldBind(w, 0, n, "A"); !isForm(x, fault) {
			t.Error("WorldBind", n, fault)
		}
		if x, fault := impl.WorldBind(w, n, n, "Obj"); !isForm(x, fault) {
			t.Error("WorldBind", n, fault)
		}
	}
	for _, n := range []int{-1, 7, math.MinInt, math.MaxInt} {
		if x, fault := impl.WorldLink(w, n); !isForm(x, fault) {
			t.Error("WorldLink", n, fault)
		}
		if impl.WorldSub(w, n, 0) || impl.WorldSub(w, 0, n) || impl.WorldSub(w, n, n) {
			t.Error("WorldSub", n)
		}
	}
	for _, s := range []string{"", "9", "A-", "LA;", "abcdefghi", "I I", "\xff", strings.Repeat("A", 1<<16)} {
		if x, class, fault := impl.WorldLoad(w, 0, s); !isForm(x, fault) || class != -1 {
			t.Errorf("WorldLoad of %.9q: %v", s, fault)
		}
		if x, fault := impl.WorldBind(w, 0, 1, s); !isForm(x, fault) {
			t.Errorf("WorldBind of %.9q: %v", s, fault)
		}
	}
}

func TestWorldSub(t *testing.T) {
	w := richWorld(t)
	above := map[int][]int{0: {0}, 1: {1, 0}, richA: {richA, 0}, richF: {richF, 0}, richB: {richB, richA, richF, 0}, richG: {richG, richF, 0}, richC: {richC, richB, richA, richF, richG, 0}}
	for a := range w.Classes {
		for b := range w.Classes {
			if got := impl.WorldSub(w, a, b); got != slices.Contains(above[a], b) {
				t.Error(a, b, got)
			}
		}
	}
}

// Promise 15.
func TestWorldSubGoesOn(t *testing.T) {
	for seed := range 1000 {
		d := newDice(seed)
		w := randomWorld(t, d)
		for a := range w.Classes {
			for b := range w.Classes {
				if !impl.WorldSub(w, a, b) {
					continue
				}
				if a != b && impl.WorldSub(w, b, a) {
					t.Fatal(seed, a, b)
				}
				for c := range w.Classes {
					if impl.WorldSub(w, b, c) && !impl.WorldSub(w, a, c) {
						t.Fatal(seed, a, b, c)
					}
				}
			}
		}
	}
}

func soundStart(t *testing.T) impl.Start {
	return impl.Start{
		Loaders: soundLoaders(t), Loader: 2, Name: "M", Fuel: impl.FuelMax, Room: impl.RoomMax, Prove: true,
		Picks: []impl.Pick{{At: 0, Kind: impl.PickLoad, Loader: 2, Name: "A"}, {At: impl.FuelMax, Kind: impl.PickLink, Loader: 0, Name: "Obj"}, {At: 5, Kind: 1, Name: "Q"}, {At: 5, Kind: 1, Name: "Q"}, {At: 1, Kind: 2, Name: "abcdefgh"}, {At: 1, Kind: 2, Loader: 1, Name: "Err"}},
	}
}

func TestStartOk(t *testing.T) {
	turns := []struct {
		name string
		want bool
		turn func(s *impl.Start)
	}{
		{"as it is", true, func(s *impl.Start) {}},
		{"no picks", true, func(s *impl.Start) { s.Picks = nil }},
		{"not proved", true, func(s *impl.Start) { s.Prove = false }},
		{"no fuel, no room", true, func(s *impl.Start) { s.Fuel, s.Room = 0, 0 }},
		{"the name Obj", true, func(s *impl.Start) { s.Name = "Obj" }},
		{"the first loader", true, func(s *impl.Start) { s.Loader = 0 }},
		{"a loader that is nobody", false, func(s *impl.Start) { s.Loader = -1 }},
		{"a loader that is not there", false, func(s *impl.Start) { s.Loader = 3 }},
		{"no name", false, func(s *impl.Start) { s.Name = "" }},
		{"a name that is none", false, func(s *impl.Start) { s.Name = "LA;" }},
		{"a name that is too long", false, func(s *impl.Start) { s.Name = "abcdefghi" }},
		{"fuel below 0", false, func(s *impl.Start) { s.Fuel = -1 }},
		{"too much fuel", false, func(s *impl.Start) { s.Fuel = impl.FuelMax + 1 }},
		{"room below 0", false, func(s *impl.Start) { s.Room = -1 }},
		{"too much room", false, func(s *impl.Start) { s.Room = impl.RoomMax + 1 }},
		{"one pick too many", false, func(s *impl.Start) { s.Picks = append(s.Picks, s.Picks[0]) }},
		{"a pick below 0", false, func(s *impl.Start) { s.Picks[5].At = -1 }},
		{"a pick behind all fuel", false, func(s *impl.Start) { s.Picks[0].At = impl.FuelMax + 1 }},
		{"a pick of no kind", false, func(s *impl.Start) { s.Picks[2].Kind = 0 }},
		{"a pick of a kind that is none", false, func(s *impl.Start) { s.Picks[2].Kind = 3 }},
		{"a pick of nobody", false, func(s *impl.Start) { s.Picks[1].Loader = -1 }},
		{"a pick of a loader that is not there", false, func(s *impl.Start) { s.Picks[1].Loader = 3 }},
		{"a pick without a name", false, func(s *impl.Start) { s.Picks[3].Name = "" }},
		{"a pick of what is no name", false, func(s *impl.Start) { s.Picks[3].Name = "9" }},
		{"nothing", false, func(s *impl.Start) { *s = impl.Start{} }},
	}
	for _, turn := range turns {
		s := soundStart(t)
		if turn.turn(&s); impl.StartOk(s) != turn.want {
			t.Error(turn.name, !turn.want)
		}
	}
	for _, f := range loaderFaults {
		s := soundStart(t)
		s.Loader, s.Picks = 0, nil
		if s.Loaders = f.turn(s.Loaders); impl.StartOk(s) {
			t.Error(f.name)
		}
	}
}

// oddWorld is a world of spare room, in which some things may be spoiled.
func oddWorld(t *testing.T, seed int) impl.World {
	d := newDice(seed)
	w := randomWorld(t, d)
	if d.below(3) == 0 {
		w = richWorld(t)
	}
	w = roomy(reflect.ValueOf(w)).Interface().(impl.World)
	if d.below(3) > 0 {
		spoil(d, reflect.ValueOf(&w).Elem(), 1+d.below(600))
	}
	return roomy(reflect.ValueOf(w)).Interface().(impl.World)
}

func TestCalmWorlds(t *testing.T) {
	type answer struct {
		World impl.World
		Fault impl.Fault
		Class int
		Ok    bool
	}
	loaders := append([]int{0, 0, 1, 1, 2, 2}, oddNumbers...)
	for seed := range 2500 {
		d := newDice(seed)
		w := oddWorld(t, seed)
		before := frozen(w)
		a, b, name := loaders[d.below(len(loaders))], loaders[d.below(len(loaders))], randomName(d)
		if d.below(20) == 0 {
			name = d.text(d.below(20))
		}
		class := d.below(len(w.Classes)+2) - 1
		calls := map[string]func() answer{
			"WorldNew": func() answer { return answer{World: impl.WorldNew(w.Loaders)} },
			"WorldOk":  func() answer { return answer{Ok: impl.WorldOk(w)} },
			"WorldSub": func() answer { return answer{Ok: impl.WorldSub(w, a, b)} },
			"WorldLoad": func() answer {
				x, class, fault := impl.WorldLoad(w, a, name)
				return answer{World: x, Class: class, Fault: fault}
			},
			"WorldBind": func() answer { x, fault := impl.WorldBind(w, a, b, name); return answer{World: x, Fault: fault} },
			"WorldLink": func() answer {
				x, fault := impl.WorldLink(w, class)
				return answer{World: x, Fault: fault}
			},
			"StartOk": func() answer {
				return answer{Ok: impl.StartOk(impl.Start{Loaders: w.Loaders, Loader: a, Name: name, Fuel: b, Room: b, Picks: many(b&7, impl.Pick{At: a, Kind: b, Loader: a, Name: name})})}
			},
		}
		for what, call := range calls {
			var x answer
			calm(t, what, func() { x = call() })
			if frozen(w) != before {
				t.Fatalf("seed %d: %s writes into its argument", seed, what)
			}
			wantNew(t, fmt.Sprint(what, " ", seed), x, struct {
				World impl.World
				Name  string
			}{w, name})
		}
		if !impl.WorldOk(w) {
			if x, class, fault := impl.WorldLoad(w, a, name); !same(x, impl.World{}) || class != -1 || fault != (impl.Fault{Code: impl.FaultForm}) {
				t.Fatal(seed, class, fault)
			}
		}
	}
}

// Whoever answered first, an answer is the same, and writing into it changes no other one.
func TestCalmWorldsKeepNothing(t *testing.T) {
	for seed := range 300 {
		d := newDice(seed)
		w := randomWorld(t, d)
		loader, name := d.below(len(w.Loaders)), randomName(d)
		x, class, fault := impl.WorldLoad(w, loader, name)
		before := dump(x, false)
		y, _, _ := impl.WorldLoad(w, loader, name)
		spoil(d, reflect.ValueOf(&y).Elem(), 2)
		impl.WorldLink(richWorld(t), richC)
		z, again, g := impl.WorldLoad(w, loader, name)
		if dump(x, false) != before || dump(z, false) != before || again != class || g != fault {
			t.Fatal(seed)
		}
	}
}

// What is above a class comes ahead of it, be all else as it must be.
func TestWorldAhead(t *testing.T) {
	for name, src := range map[string]string{"B": "class A Obj 0\nclass B A 0\n", "C": "class A Obj 5\nclass C Obj 0\nface A\n"} {
		w, class := load(t, worldOf(t, loaderOf(t, -1, src)), 0, name)
		if class != 3 || names(w) != "0:A 0:"+name {
			t.Fatal(names(w))
		}
		w.Classes[2], w.Classes[3] = w.Classes[3], w.Classes[2]
		for i, k := range w.Known {
			w.Known[i].Class = 5 - k.Class
		}
		if w.Classes[2].Super == 2 {
			w.Classes[2].Super = 3
		} else {
			w.Classes[2].Faces[0] = 3
		}
		wantNotOk(t, "what is above "+name+" behind it", w)
	}
}

// Whatever ops a class has, a link answers, and leaves a world that is ok, or the one that it was given.
func TestCalmLinks(t *testing.T) {
	codes := map[int]int{}
	for seed := range 3000 {
		d := newDice(seed)
		c := randomClass(d)
		c.Faces, c.Super = nil, classObj
		if impl.ClassCheck(c) != impl.FormFine {
			continue
		}
		list := []impl.Loader{{Files: []impl.File{{Name: "A", Text: impl.FilePut(c)}}, Parent: 1}, loaderOf(t, -1, d.pick([]string{"class B Obj 0", "class B Obj 5", ""}))}
		w, class := load(t, impl.WorldNew(list), 0, "A")
		var x impl.World
		var fault impl.Fault
		calm(t, fmt.Sprint("WorldLink ", seed), func() { x, fault = impl.WorldLink(w, class) })
		codes[fault.Code]++
		if fault.Code == impl.FaultFine && !impl.WorldOk(x) || fault.Code != impl.FaultFine && !same(x, w) {
			t.Fatal(seed, fault)
		}
	}
	if codes[impl.FaultFine] < 100 || codes[impl.FaultProof] < 100 {
		t.Error("too few", codes)
	}
}
