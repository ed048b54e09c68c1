package impl

import (
	"slices"
	"strings"
	"testing"
)

// Runs tell of finding whether it went well; which field or method it is, and who is bound, is tested here.

// findWorld has A and the faces F and G of the loader 0, B below A and U, who finds, of the loader 1; Q cannot be brought.
func findWorld() *World {
	w := WorldNew([]Loader{{Parent: -1}, {Parent: 0}})
	file := func(flags int) *findFile { return &findFile{Class: Class{Flags: flags}} }
	a := file(0).field("x", "I", 0).field("s", "LX;", MemStatic).field("p", "I", MemPrivate).field("ps", "I", MemStatic+MemPrivate).field("o", "LObj;", 0)
	a.method("f", "(LX;I)LY;", 0).method("t", "(LX;)V", MemStatic).method("q", "()V", MemPrivate).method("qs", "()V", MemStatic+MemPrivate)
	f := file(FlagFace+FlagAbstract).field("c", "LX;", MemStatic).field("d", "I", MemStatic).method("g", "(LX;)LY;", MemAbstract).method("st", "()V", MemStatic)
	g := file(FlagFace+FlagAbstract).field("d", "I", MemStatic).method("h", "()V", MemAbstract).method("g", "(LX;)LY;", MemStatic).method("f", "(LX;I)LY;", MemAbstract)
	b := file(0).field("x", "LX;", 0).field("p", "I", 0).method("h", "()V", 0).method("f", "(LX;I)LY;", MemStatic)
	list := []Cls{
		{Name: "A", Loader: 0, Super: ClassObj, File: a.Class},
		{Name: "F", Loader: 0, Super: ClassObj, File: f.Class},
		{Name: "G", Loader: 0, Super: ClassObj, Faces: []int{3}, File: g.Class},
		{Name: "B", Loader: 1, Super: 2, Faces: []int{4}, File: b.Class},
		{Name: "U", Loader: 1, Super: ClassObj},
	}
	for i, c := range list {
		w.Known = append(w.Known, Known{Loader: 1, Name: c.Name, Class: i + 2})
		if c.Loader == 0 {
			w.Known = append(w.Known, Known{Loader: 0, Name: c.Name, Class: i + 2})
		}
	}
	w.Classes = append(w.Classes, list...)
	return &w
}

// findFile puts a class together.
type findFile struct {
	Class
}

func (f *findFile) text(s string) int {
	f.Pool = append(f.Pool, Const{Kind: ConstName, Text: s})
	return len(f.Pool)
}

func (f *findFile) field(name string, t string, flags int) *findFile {
	f.Fields = append(f.Fields, Field{Flags: flags, Name: f.text(name), Type: f.text(t)})
	return f
}

func (f *findFile) method(name string, desc string, flags int) *findFile {
	f.Methods = append(f.Methods, Method{Flags: flags, Name: f.text(name), Desc: f.text(desc)})
	return f
}

// findBy finds what a class means by an op and an entry of three words.
func findBy(w *World, class int, op int, entry string) (Slot, error) {
	words := strings.Fields(entry)
	f := &findFile{Class: w.Classes[class].File}
	c := f.text(words[0])
	f.Pool = append(f.Pool, Const{Kind: ConstClass, A: c})
	c = len(f.Pool)
	n, d := f.text(words[1]), f.text(words[2])
	f.Pool = append(f.Pool, Const{Kind: ConstPair, A: n, B: d})
	f.Pool = append(f.Pool, Const{Kind: kindBehind(op), A: c, B: len(f.Pool)})
	w.Classes = replaced(w.Classes, class, w.Classes[class])
	w.Classes[class].File = f.Class
	in := Ins{Op: op, Num: len(f.Pool)}
	if op <= OpPutAll {
		return findField(w, class, in)
	}
	return findMethod(w, class, in)
}

const (
	findA = 2
	findF = 3
	findG = 4
	findB = 5
	findU = 6
)

func TestFind(t *testing.T) {
	for _, c := range []struct {
		who   int
		op    int
		entry string
		want  Slot
		fault Fault
		bonds string
	}{
		{findU, OpGet, "A x I", Slot{findA, 0}, Fault{}, ""},
		{findU, OpPut, "B x I", Slot{findA, 0}, Fault{}, ""},
		{findU, OpGet, "B x LX;", Slot{findB, 0}, Fault{}, ""},
		{findU, OpGet, "A o LObj;", Slot{findA, 4}, Fault{}, ""},
		{findU, OpGetAll, "A s LX;", Slot{findA, 1}, Fault{}, "X"},
		{findU, OpPutAll, "B s LX;", Slot{findA, 1}, Fault{}, "X"},
		{findA, OpPutAll, "A s LX;", Slot{findA, 1}, Fault{}, ""},
		{findU, OpGetAll, "B d I", Slot{findG, 0}, Fault{}, ""},
		{findU, OpGetAll, "B c LX;", Slot{findF, 0}, Fault{}, "X"},
		{findU, OpGetAll, "G c LX;", Slot{findF, 0}, Fault{}, "X"},
		{findU, OpGetAll, "F d I", Slot{findF, 1}, Fault{}, ""},
		{findU, OpGet, "A x LX;", Slot{}, Fault{FaultField, "A"}, ""},
		{findU, OpGet, "B y I", Slot{}, Fault{FaultField, "B"}, ""},
		{findU, OpGetAll, "F x I", Slot{}, Fault{FaultField, "F"}, ""},
		{findU, OpGet, "Obj x I", Slot{}, Fault{FaultField, "Obj"}, ""},
		{findU, OpGet, "Q x I", Slot{}, Fault{FaultNone, "Q"}, ""},
		{findU, OpGet, "B s LX;", Slot{}, Fault{FaultStatic, "A"}, ""},
		{findU, OpPut, "A s LX;", Slot{}, Fault{FaultStatic, "A"}, ""},
		{findU, OpGetAll, "B x I", Slot{}, Fault{FaultStatic, "A"}, ""},
		{findU, OpPutAll, "A x I", Slot{}, Fault{FaultStatic, "A"}, ""},
		{findU, OpGetAll, "A p I", Slot{}, Fault{FaultStatic, "A"}, ""},
		{findU, OpGet, "A p I", Slot{}, Fault{FaultReach, "A"}, ""},
		{findU, OpGetAll, "B ps I", Slot{}, Fault{FaultReach, "A"}, ""},
		{findB, OpGet, "A p I", Slot{}, Fault{FaultReach, "A"}, ""},
		{findA, OpGet, "A p I", Slot{findA, 2}, Fault{}, ""},
		{findU, OpGet, "B p I", Slot{findB, 1}, Fault{}, ""},

		{findU, OpVirtual, "A f (LX;I)LY;", Slot{findA, 0}, Fault{}, "X Y"},
		{findA, OpVirtual, "A f (LX;I)LY;", Slot{findA, 0}, Fault{}, ""},
		{findB, OpSpecial, "A f (LX;I)LY;", Slot{findA, 0}, Fault{}, "X Y"},
		{findU, OpStatic, "B f (LX;I)LY;", Slot{findB, 1}, Fault{}, ""},
		{findU, OpStatic, "B t (LX;)V", Slot{findA, 1}, Fault{}, "X"},
		{findU, OpStatic, "F st ()V", Slot{findF, 1}, Fault{}, ""},
		{findU, OpStatic, "G g (LX;)LY;", Slot{findG, 1}, Fault{}, "X Y"},
		{findU, OpFace, "F g (LX;)LY;", Slot{findF, 0}, Fault{}, "X Y"},
		{findU, OpFace, "G g (LX;)LY;", Slot{findF, 0}, Fault{}, "X Y"},
		{findU, OpFace, "G h ()V", Slot{findG, 0}, Fault{}, ""},
		{findU, OpVirtual, "B h ()V", Slot{findB, 0}, Fault{}, ""},
		{findU, OpVirtual, "F g (LX;)LY;", Slot{}, Fault{FaultKind, "F"}, ""},
		{findU, OpSpecial, "G zz ()V", Slot{}, Fault{FaultKind, "G"}, ""},
		{findU, OpFace, "B h ()V", Slot{}, Fault{FaultKind, "B"}, ""},
		{findU, OpFace, "Obj h ()V", Slot{}, Fault{FaultKind, "Obj"}, ""},
		{findU, OpVirtual, "A f ()V", Slot{}, Fault{FaultMethod, "A"}, ""},
		{findU, OpVirtual, "B g (LX;)LY;", Slot{}, Fault{FaultMethod, "B"}, ""},
		{findU, OpSpecial, "A zz ()V", Slot{}, Fault{FaultMethod, "A"}, ""},
		{findU, OpStatic, "G st ()V", Slot{}, Fault{FaultMethod, "G"}, ""},
		{findU, OpFace, "F st ()V", Slot{}, Fault{FaultMethod, "F"}, ""},
		{findU, OpFace, "F h ()V", Slot{}, Fault{FaultMethod, "F"}, ""},
		{findU, OpVirtual, "Q f ()V", Slot{}, Fault{FaultNone, "Q"}, ""},
		{findU, OpVirtual, "B f (LX;I)LY;", Slot{}, Fault{FaultStatic, "B"}, ""},
		{findU, OpSpecial, "B t (LX;)V", Slot{}, Fault{FaultStatic, "A"}, ""},
		{findU, OpStatic, "A f (LX;I)LY;", Slot{}, Fault{FaultStatic, "A"}, ""},
		{findU, OpStatic, "A q ()V", Slot{}, Fault{FaultStatic, "A"}, ""},
		{findU, OpVirtual, "B q ()V", Slot{}, Fault{FaultReach, "A"}, ""},
		{findB, OpSpecial, "A q ()V", Slot{}, Fault{FaultReach, "A"}, ""},
		{findB, OpStatic, "A qs ()V", Slot{}, Fault{FaultReach, "A"}, ""},
		{findA, OpVirtual, "A q ()V", Slot{findA, 2}, Fault{}, ""},
		{findA, OpStatic, "A qs ()V", Slot{findA, 3}, Fault{}, ""},
	} {
		w := findWorld()
		got, err := findBy(w, c.who, c.op, c.entry)
		if fault := faultOf(err); fault != c.fault || err == nil && got != c.want {
			t.Errorf("%d by op %d %s: %v %v, wanted %v %v", c.who, c.op, c.entry, got, fault, c.want, c.fault)
		}
		bonds := strings.Join(mapped(w.Bonds, func(b Bond) string { return b.Name }), " ")
		if bonds != c.bonds || !all(w.Bonds, func(b Bond) bool { return slices.Equal(b.Loaders, []int{0, 1}) }) {
			t.Errorf("%d by op %d %s: bonds %v, wanted %s", c.who, c.op, c.entry, w.Bonds, c.bonds)
		}
	}
}

// Who is found is bound by its types last, and may then be refused.
func TestFindFaultBond(t *testing.T) {
	for _, c := range []struct {
		op    int
		entry string
	}{{OpGetAll, "A s LX;"}, {OpVirtual, "A f (LX;I)LY;"}, {OpStatic, "A t (LX;)V"}, {OpFace, "G g (LX;)LY;"}} {
		w := findWorld()
		w.Classes = append(w.Classes, Cls{Name: "X", Loader: 0}, Cls{Name: "X", Loader: 1})
		w.Known = append(w.Known, Known{Loader: 0, Name: "X", Class: 7}, Known{Loader: 1, Name: "X", Class: 8})
		if _, err := findBy(w, findU, c.op, c.entry); faultOf(err) != (Fault{FaultBond, "X"}) {
			t.Error(c.entry, err)
		}
	}
	w := findWorld()
	w.Classes = append(w.Classes, Cls{Name: "Y", Loader: 0}, Cls{Name: "Y", Loader: 1})
	w.Known = append(w.Known, Known{Loader: 0, Name: "Y", Class: 7}, Known{Loader: 1, Name: "Y", Class: 8})
	if _, err := findBy(w, findU, OpVirtual, "A f (LX;I)LY;"); faultOf(err) != (Fault{FaultBond, "Y"}) {
		t.Error(err)
	}
	if _, err := findBy(w, findA, OpVirtual, "A f (LX;I)LY;"); err != nil {
		t.Error(err)
	}
}
