package tests

import (
	"fmt"
	"math"
	"slices"
	"strings"
	"testing"

	"loop.example/stowage/impl"
)

// Places of classes in lookWorld.
const (
	lookF = 2
	lookA = 3
	lookG = 4
	lookB = 5
	lookC = 6
	lookH = 7
	lookD = 8
	lookK = 9
	lookP = 10
)

// lookWorld has F, A, G and K of the loader 0, and B, C, H, D and P of the loader 1, that were brought, but not linked. B has F twice over: by itself and from above.
func lookWorld(t *testing.T) impl.World {
	t.Helper()
	f := "class F Obj 5\nfield d I 1\nfield c LX; 1\nfield e I 1\n" + asks("g", "()I") + does("s", "()I", 1)
	g := "class G Obj 5\nface F\nfield d I 1\n" + asks("h", "()V") + does("g", "()I", 1)
	a := "class A Obj 0\nface F\nfield x I 0\nfield y I 2\nfield z LA; 1\nfield e I 0\n" + does("get", "()I", 0) + does("hid", "(LQ;)V", 2) + does("st", "()V", 1) + does("g", "()I", 0)
	k := "class K Obj 4\nface G\nface F\n" + asks("ab", "()V")
	b := "class B A 0\nface G\nface F\nfield x LA; 0\nfield y I 0\n" + does("get", "()I", 0)
	p := "class P A 0\n" + does("get", "()I", 2) + does("g", "()I", 1)
	w := worldOf(t, loaderOf(t, -1, f+g+a+k), loaderOf(t, 0, b+"class C B 0\nclass H Obj 5\nface G\nface F\nclass D C 0\nface H\n"+p))
	w = loadAll(t, w, 1, "C", "H", "D", "K", "P")
	if names(w) != "0:F 0:A 0:G 1:B 1:C 1:H 1:D 0:K 1:P" {
		t.Fatal(names(w))
	}
	return w
}

// lookWorlds are lookWorld, that with some classes linked, and with all.
func lookWorlds(t *testing.T) []impl.World {
	t.Helper()
	w := lookWorld(t)
	some := linked(t, w, lookC)
	all := some
	for class := range all.Classes {
		all = linked(t, all, class)
	}
	return []impl.World{w, some, all}
}

// linkedAll is the last of lookWorlds.
func linkedAll(t *testing.T) impl.World {
	t.Helper()
	return lookWorlds(t)[2]
}

var (
	noSlot    = impl.Slot{Class: -1, At: -1}
	faultForm = impl.Fault{Code: impl.FaultForm}
	lookOps   = []int{impl.OpVirtual, impl.OpSpecial, impl.OpStatic, impl.OpFace}
)

func TestLookUp(t *testing.T) {
	for _, w := range lookWorlds(t) {
		for class, want := range []string{"0", "0 1", "0 2", "0 2 3", "0 2 4", "0 2 3 4 5", "0 2 3 4 5 6", "0 2 4 7", "0 2 3 4 5 6 7 8", "0 2 4 9", "0 2 3 10"} {
			if got := toldOut(impl.LookUp(w, class)...); got != want {
				t.Errorf("LookUp of %s: %s, wanted %s", w.Classes[class].Name, got, want)
			}
		}
	}
}

// What is above a class comes first, then its faces, each ahead of what it has; a face is ahead of all that it has.
func TestLookFaces(t *testing.T) {
	for _, w := range lookWorlds(t) {
		for class, want := range []string{"", "", "2", "2", "4 2", "2 4", "2 4", "7 4 2", "2 4 7", "4 2", "2"} {
			if got := toldOut(impl.LookFaces(w, class)...); got != want {
				t.Errorf("LookFaces of %s: %s, wanted %s", w.Classes[class].Name, got, want)
			}
		}
	}
}

// A face that two faces have is told where it comes first.
func TestLookFacesMet(t *testing.T) {
	src := "class F Obj 5\nclass G Obj 5\nface F\nclass H Obj 5\nface F\nclass A Obj 0\nface H\nface G\nclass J Obj 5\nface G\nface H\n"
	w := loadAll(t, worldOf(t, loaderOf(t, -1, src)), 0, "A", "J")
	if names(w) != "0:F 0:H 0:G 0:A 0:J" {
		t.Fatal(names(w))
	}
	for class, want := range []string{"", "", "2", "3 2", "4 2", "3 2 4", "6 4 2 3"} {
		if got := toldOut(impl.LookFaces(w, class)...); got != want {
			t.Errorf("LookFaces of %s: %s, wanted %s", w.Classes[class].Name, got, want)
		}
	}
}

// Two loaders mean two faces by one name.
func TestLookFacesOfOneName(t *testing.T) {
	w := worldOf(t, loaderOf(t, -1, "class F Obj 5\nfield d I 1\n"+asks("g", "()I")+"class A Obj 0\nface F\n"), loaderOf(t, 0, "class F Obj 5\nfield d I 1\n"+asks("g", "()I")+"class B A 0\nface F\n"))
	w = loadAll(t, w, 1, "B")
	if names(w) != "0:F 0:A 1:F 1:B" || !same(impl.LookFaces(w, 5), []int{2, 4}) || !same(impl.LookUp(w, 5), []int{0, 2, 3, 4, 5}) {
		t.Error(names(w), impl.LookFaces(w, 5), impl.LookUp(w, 5))
	}
	if impl.LookField(w, 5, "d", "I") != (impl.Slot{Class: 4}) || impl.LookField(w, 3, "d", "I") != (impl.Slot{Class: 2}) {
		t.Error(impl.LookField(w, 5, "d", "I"), impl.LookField(w, 3, "d", "I"))
	}
}

// slotOf is where something stands, told as CLASS.AT; noSlot of the empty text.
func slotOf(s string) impl.Slot {
	if s == "" {
		return noSlot
	}
	class, at, _ := strings.Cut(s, ".")
	return impl.Slot{Class: number(class), At: number(at)}
}

func TestLookField(t *testing.T) {
	for _, c := range []struct {
		class int
		field string
		want  string
	}{
		// Of one name and other types, in a class and above it.
		{lookA, "x I", "3.0"}, {lookA, "x LA;", ""}, {lookB, "x I", "3.0"}, {lookB, "x LA;", "5.0"}, {lookC, "x I", "3.0"}, {lookC, "x LA;", "5.0"}, {lookB, "x LB;", ""},
		// Private, and not.
		{lookA, "y I", "3.1"}, {lookB, "y I", "5.1"}, {lookC, "y I", "5.1"}, {lookP, "y I", "3.1"},
		// With MemStatic, and without.
		{lookA, "z LA;", "3.2"}, {lookD, "z LA;", "3.2"}, {lookP, "z LA;", "3.2"},
		// In faces, each ahead of what it has, and these ahead of what is above.
		{lookF, "d I", "2.0"}, {lookA, "d I", "2.0"}, {lookG, "d I", "4.0"}, {lookB, "d I", "4.0"}, {lookC, "d I", "4.0"}, {lookH, "d I", "4.0"}, {lookK, "d I", "4.0"}, {lookP, "d I", "2.0"},
		{lookF, "c LX;", "2.1"}, {lookG, "c LX;", "2.1"}, {lookD, "c LX;", "2.1"}, {lookH, "c LX;", "2.1"},
		{lookA, "e I", "3.3"}, {lookB, "e I", "2.2"}, {lookC, "e I", "2.2"}, {lookD, "e I", "2.2"}, {lookP, "e I", "3.3"}, {lookK, "e I", "2.2"},
		// Nowhere.
		{lookF, "x I", ""}, {lookK, "x I", ""}, {lookD, "x D", ""}, {lookB, "get ()I", ""}, {lookB, "y LA;", ""}, {lookC, "X I", ""},
		{impl.ClassObj, "x I", ""}, {impl.ClassErr, "x I", ""}, {impl.ClassObj, "d I", ""},
	} {
		name, kind, _ := strings.Cut(c.field, " ")
		for _, w := range lookWorlds(t) {
			if got := impl.LookField(w, c.class, name, kind); got != slotOf(c.want) {
				t.Errorf("LookField of %s %s: %v, wanted %q", w.Classes[c.class].Name, c.field, got, c.want)
			}
		}
	}
}

// lookMethods are methods, and what each op from OpVirtual to OpFace finds by them: CLASS.AT, or K and M, FaultKind and FaultMethod.
var lookMethods = []struct {
	class  int
	method string
	want   string
}{
	// In the class and above it, whatever the op asks of flags.
	{lookA, "get ()I", "3.0 3.0 3.0 K"}, {lookB, "get ()I", "5.0 5.0 5.0 K"}, {lookC, "get ()I", "5.0 5.0 5.0 K"}, {lookD, "get ()I", "5.0 5.0 5.0 K"},
	{lookA, "hid (LQ;)V", "3.1 3.1 3.1 K"}, {lookD, "hid (LQ;)V", "3.1 3.1 3.1 K"}, {lookA, "st ()V", "3.2 3.2 3.2 K"}, {lookC, "st ()V", "3.2 3.2 3.2 K"},
	{lookA, "g ()I", "3.3 3.3 3.3 K"}, {lookB, "g ()I", "3.3 3.3 3.3 K"}, {lookP, "g ()I", "10.1 10.1 10.1 K"}, {lookP, "get ()I", "10.0 10.0 10.0 K"},
	{lookK, "ab ()V", "9.0 9.0 9.0 K"},
	// In a face, and in those that it has.
	{lookF, "g ()I", "K K 2.0 2.0"}, {lookF, "s ()I", "K K 2.1 M"}, {lookG, "h ()V", "K K 4.0 4.0"}, {lookG, "g ()I", "K K 4.1 2.0"}, {lookG, "s ()I", "K K M M"},
	{lookH, "h ()V", "K K M 4.0"}, {lookH, "g ()I", "K K M 2.0"}, {lookH, "s ()I", "K K M M"},
	// What a class's faces have is not its own.
	{lookK, "g ()I", "M M M K"}, {lookK, "h ()V", "M M M K"}, {lookB, "h ()V", "M M M K"}, {lookA, "s ()I", "M M M K"},
	// Nowhere: another name, another type, a field.
	{lookA, "got ()I", "M M M K"}, {lookA, "get ()V", "M M M K"}, {lookA, "x I", "M M M K"}, {lookF, "got ()I", "K K M M"}, {lookG, "h ()I", "K K M M"}, {lookF, "h ()V", "K K M M"},
	{impl.ClassObj, "get ()I", "M M M K"}, {impl.ClassErr, "get ()I", "M M M K"},
}

func TestLookMethod(t *testing.T) {
	for _, c := range lookMethods {
		name, desc, _ := strings.Cut(c.method, " ")
		for i, want := range strings.Fields(c.want) {
			for _, w := range lookWorlds(t) {
				slot, fault := noSlot, impl.Fault{Name: w.Classes[c.class].Name}
				switch want {
				case "K":
					fault.Code = impl.FaultKind
				case "M":
					fault.Code = impl.FaultMethod
				default:
					slot, fault = slotOf(want), impl.Fault{}
				}
				if got, f := impl.LookMethod(w, c.class, lookOps[i], name, desc); got != slot || f != fault {
					t.Errorf("LookMethod of %s by %d %s: %v %v, wanted %v %v", w.Classes[c.class].Name, lookOps[i], c.method, got, f, slot, fault)
				}
			}
		}
	}
}

// No op but these four looks for a method.
func TestLookMethodOtherOps(t *testing.T) {
	w := linkedAll(t)
	for _, op := range append([]int{impl.OpPutAll, impl.OpCast, impl.OpNew, impl.OpIs, impl.OpPrint, impl.OpNop, impl.OpPush}, oddNumbers...) {
		for _, class := range []int{0, lookA, lookF} {
			if slot, fault := impl.LookMethod(w, class, op, "g", "()I"); slot != noSlot || fault != faultForm {
				t.Error(class, op, slot, fault)
			}
		}
	}
}

func TestLookRow(t *testing.T) {
	for _, c := range []struct {
		class int
		row   string
		want  string
	}{
		{lookA, "get ()I", "3.0"}, {lookB, "get ()I", "5.0"}, {lookC, "get ()I", "5.0"}, {lookD, "get ()I", "5.0"},
		{lookA, "g ()I", "3.3"}, {lookB, "g ()I", "3.3"}, {lookD, "g ()I", "3.3"}, {lookK, "ab ()V", "9.0"},
		// What has MemPrivate or MemStatic does not stand in a row's place.
		{lookP, "get ()I", "3.0"}, {lookP, "g ()I", "3.3"}, {lookA, "hid (LQ;)V", ""}, {lookB, "hid (LQ;)V", ""}, {lookA, "st ()V", ""}, {lookC, "st ()V", ""},
		// What faces ask for is no row, and a face has none.
		{lookK, "g ()I", ""}, {lookK, "h ()V", ""}, {lookB, "h ()V", ""}, {lookF, "g ()I", ""}, {lookG, "h ()V", ""}, {lookH, "g ()I", ""},
		{lookA, "got ()I", ""}, {lookA, "get ()V", ""}, {lookA, "get (I)I", ""},
		{impl.ClassObj, "get ()I", ""}, {impl.ClassErr, "get ()I", ""},
	} {
		name, desc, _ := strings.Cut(c.row, " ")
		for _, w := range lookWorlds(t) {
			want := c.want
			if w.Classes[c.class].State != impl.StateLinked {
				want = ""
			}
			if got := impl.LookRow(w, c.class, name, desc); got != slotOf(want) {
				t.Errorf("LookRow of %s %s: %v, wanted %q", w.Classes[c.class].Name, c.row, got, want)
			}
		}
	}
	w := lookWorlds(t)[1]
	if impl.LookRow(w, lookD, "get", "()I") != noSlot || impl.LookRow(w, lookC, "get", "()I") != (impl.Slot{Class: lookB}) {
		t.Error("a class that is not linked, below one that is")
	}
}

// wantNoLook asks all that is looked for, where nothing is to be found.
func wantNoLook(t *testing.T, what string, w impl.World, class int) {
	t.Helper()
	if up, faces := impl.LookUp(w, class), impl.LookFaces(w, class); len(up)+len(faces) > 0 {
		t.Error("LookUp and LookFaces of", what, class, up, faces)
	}
	if got := impl.LookField(w, class, "x", "I"); got != noSlot {
		t.Error("LookField of", what, class, got)
	}
	for _, op := range append([]int{0, impl.OpPutAll, impl.OpCast}, lookOps...) {
		if got, fault := impl.LookMethod(w, class, op, "get", "()I"); got != noSlot || fault != faultForm {
			t.Error("LookMethod of", what, class, op, got, fault)
		}
	}
	if got := impl.LookRow(w, class, "get", "()I"); got != noSlot {
		t.Error("LookRow of", what, class, got)
	}
}

func TestLookNotOk(t *testing.T) {
	for _, turn := range worldTurns() {
		w := richWorld(t)
		turn.turn(&w)
		for class := range 8 {
			wantNoLook(t, turn.name, w, class)
		}
	}
	for _, f := range loaderFaults {
		w := impl.WorldNew(soundLoaders(t))
		w.Loaders = f.turn(w.Loaders)
		wantNoLook(t, f.name, w, 0)
	}
	for _, w := range lookWorlds(t) {
		for _, class := range []int{-1, -2, 11, 12, 13, math.MinInt, math.MaxInt} {
			wantNoLook(t, "a class that is not there", w, class)
		}
	}
	wantNoLook(t, "nothing", impl.World{}, 0)
}

// Names and types are held against what classes have, be they names or not.
func TestLookOddNames(t *testing.T) {
	w := linkedAll(t)
	for class := range w.Classes {
		for _, name := range []string{"", "Obj", "Err", "9", "abcdefghi", "x ", "get\x00", "LA;", "()I", "\xff"} {
			for _, kind := range []string{"", "I", "()I", "LA;", "V", "x"} {
				if got := impl.LookField(w, class, name, kind); got != noSlot {
					t.Error("LookField", class, name, kind, got)
				}
				if got := impl.LookRow(w, class, name, kind); got != noSlot {
					t.Error("LookRow", class, name, kind, got)
				}
				if got, fault := impl.LookMethod(w, class, impl.OpStatic, name, kind); got != noSlot || fault != (impl.Fault{Code: impl.FaultMethod, Name: w.Classes[class].Name}) {
					t.Error("LookMethod", class, name, kind, got, fault)
				}
			}
		}
	}
}

// As many classes as may be, each face having the three ahead of it.
func TestLookMostFaces(t *testing.T) {
	list := []impl.Loader{{Parent: 1}, {Parent: -1}}
	src := func(i int) string {
		s := fmt.Sprint("class N", i, " Obj 5\nfield f", i, " I 1\n")
		for n := i - 1; n >= max(0, i-3); n-- {
			s += fmt.Sprint("face N", n, "\n")
		}
		return s + asks(fmt.Sprint("m", i), "()V")
	}
	for i := range 10 {
		at := 1 - i/impl.FilesMax
		list[at].Files = append(list[at].Files, fileOf(t, src(i)))
	}
	w, class := load(t, worldOf(t, list...), 0, "N9")
	if class != 11 || !same(impl.LookUp(w, class), []int{0, 2, 3, 4, 5, 6, 7, 8, 9, 10, 11}) || !same(impl.LookFaces(w, class), []int{11, 10, 9, 8, 7, 6, 5, 4, 3, 2}) {
		t.Error(class, impl.LookUp(w, class), impl.LookFaces(w, class))
	}
	for at := 2; at < class; at++ {
		if got := impl.LookField(w, class, fmt.Sprint("f", at-2), "I"); got != (impl.Slot{Class: at}) {
			t.Error(at, got)
		}
		if got, fault := impl.LookMethod(w, class, impl.OpFace, fmt.Sprint("m", at-2), "()V"); got != (impl.Slot{Class: at}) || fault != (impl.Fault{}) {
			t.Error(at, got, fault)
		}
	}
}

// facesIn are the faces of a class, told a second time: a list that may have some more than once.
func facesIn(w impl.World, class int) []int {
	if class == impl.ClassObj {
		return nil
	}
	c := w.Classes[class]
	out := facesIn(w, c.Super)
	for _, f := range c.Faces {
		out = append(append(out, f), facesIn(w, f)...)
	}
	return out
}

// firsts are those of a list that do not stand ahead already.
func firsts(list []int) []int {
	var out []int
	for i, n := range list {
		if !slices.Contains(list[:i], n) {
			out = append(out, n)
		}
	}
	return out
}

// orderIn are the classes in which a field is looked for, told a second time.
func orderIn(w impl.World, class int) []int {
	out := []int{class}
	for _, f := range w.Classes[class].Faces {
		out = append(out, orderIn(w, f)...)
	}
	if class != impl.ClassObj {
		out = append(out, orderIn(w, w.Classes[class].Super)...)
	}
	return out
}

// keysIn are what fields or methods of a class are told by, each as NAME TYPE.
func keysIn(c impl.Class, fields bool) []string {
	text := func(place int) string { return c.Pool[place-1].Text }
	var out []string
	if fields {
		for _, f := range c.Fields {
			out = append(out, text(f.Name)+" "+text(f.Type))
		}
		return out
	}
	for _, m := range c.Methods {
		out = append(out, text(m.Name)+" "+text(m.Desc))
	}
	return out
}

// foundIn is the first of some classes that has a key.
func foundIn(w impl.World, order []int, fields bool, key string, flag int) impl.Slot {
	for _, class := range order {
		at := slices.Index(keysIn(w.Classes[class].File, fields), key)
		if at >= 0 && (flag == 0 || w.Classes[class].File.Methods[at].Flags&flag != 0) {
			return impl.Slot{Class: class, At: at}
		}
	}
	return noSlot
}

// Promises 49 and 50.
func TestPromiseLookUp(t *testing.T) {
	t.Parallel()
	many := map[int]int{}
	for seed := range 300 {
		w := familyWorld(t, newDice(seed))
		for class, c := range w.Classes {
			up, faces := impl.LookUp(w, class), impl.LookFaces(w, class)
			var below, flagged []int
			for other := range w.Classes {
				if impl.WorldSub(w, class, other) {
					below = append(below, other)
				}
			}
			if !slices.Equal(up, below) || !slices.Contains(up, class) || !slices.Contains(up, impl.ClassObj) {
				t.Fatal(seed, class, up, below)
			}
			for _, other := range up {
				for _, more := range impl.LookUp(w, other) {
					if !slices.Contains(up, more) {
						t.Fatal(seed, class, up, other, more)
					}
				}
				if w.Classes[other].File.Flags&impl.FlagFace != 0 {
					flagged = append(flagged, other)
				}
			}
			want := facesIn(w, class)
			if c.File.Flags&impl.FlagFace != 0 {
				want = append([]int{class}, want...)
			}
			if !slices.Equal(faces, firsts(want)) || !slices.Equal(slices.Sorted(slices.Values(faces)), flagged) {
				t.Fatal(seed, class, faces, want, flagged)
			}
			many[len(faces)]++
		}
	}
	if many[0] < 100 || many[1] < 100 || many[2] < 50 || many[3] < 5 {
		t.Error("too few", many)
	}
}

// randomKey is a name and a type that classes of familyWorld may have.
func randomKey(d *dice, fields bool) (string, string) {
	if fields {
		return fmt.Sprint("f", d.below(4)), d.pick([]string{"I", "LB;"})
	}
	return fmt.Sprint("m", d.below(3)), d.pick([]string{"()V", "()V", "(LB;)V"})
}

// familyWorld is a world of many classes and faces that are below each other; some of them are linked.
func familyWorld(t *testing.T, d *dice) impl.World {
	t.Helper()
	list := []impl.Loader{{Parent: -1}, {Parent: 0}}
	letters := []string{"A", "B", "C", "D", "E", "F", "G", "H"}
	for n, name := range letters {
		for at := range list {
			if n/5 == at || at == 1 && d.below(6) == 0 && len(list[at].Files) < 2 {
				list[at].Files = append(list[at].Files, fileOf(t, familySource(d, name, letters[:n])))
			}
		}
	}
	w := impl.WorldNew(list)
	for range 10 {
		w, _, _ = impl.WorldLoad(w, d.below(2), d.pick(letters))
	}
	for range d.below(6) {
		w, _ = impl.WorldLink(w, d.below(len(w.Classes)))
	}
	if !impl.WorldOk(w) {
		t.Fatal("the world is not ok")
	}
	return w
}

// familySource is a face of the names A, C and E, else a class.
func familySource(d *dice, name string, above []string) string {
	isFace := func(s string) bool { return strings.Contains("ACE", s) }
	flags, super, faces, src := 4*d.below(2), "Obj", "", ""
	if isFace(name) {
		flags = 5
	}
	for _, o := range above {
		if isFace(o) && d.below(2) == 0 {
			faces = "face " + o + "\n" + faces
		} else if !isFace(o) && !isFace(name) && d.below(3) > 0 {
			super = o
		}
	}
	for i := range 3 {
		if d.below(3) == 0 {
			src += fmt.Sprint("field f", i, " ", d.pick([]string{"I", "LB;"}), " ", []int{d.below(4), 1}[flags%2], "\n")
		}
	}
	for i := range 6 {
		key := fmt.Sprint("m", i/2)
		desc := []string{"()V", "(LB;)V"}[i%2]
		switch mem := []int{0, 0, 0, 1, 2, 8}[d.below(6)]; {
		case d.below(3) > 0:
		case flags == 5 && mem == 1:
			src += does(key, desc, 1)
		case flags == 5 || flags == 4 && mem == 8:
			src += asks(key, desc)
		default:
			src += does(key, desc, mem%8)
		}
	}
	return fmt.Sprint("class ", name, " ", super, " ", flags, "\n", faces, src)
}

// Promise 51.
func TestPromiseLookField(t *testing.T) {
	t.Parallel()
	answers := map[string]int{}
	for seed := range 500 {
		d := newDice(seed)
		w := familyWorld(t, d)
		for class, c := range w.Classes {
			name, kind := randomKey(d, true)
			key := name + " " + kind
			got := impl.LookField(w, class, name, kind)
			if want := foundIn(w, orderIn(w, class), true, key, 0); got != want {
				t.Fatal(seed, class, key, got, want)
			}
			if got != noSlot && (!slices.Contains(impl.LookUp(w, class), got.Class) || keysIn(w.Classes[got.Class].File, true)[got.At] != key) {
				t.Fatal(seed, class, key, got)
			}
			isOwn := slices.ContainsFunc(keysIn(c.File, true), func(k string) bool { return strings.HasPrefix(k, name+" ") })
			if class != impl.ClassObj && len(c.Faces) == 0 && !isOwn && got != impl.LookField(w, c.Super, name, kind) {
				t.Fatal(seed, class, key, got)
			}
			switch got.Class {
			case -1:
				answers["none"]++
			case class:
				answers["own"]++
			default:
				answers[fmt.Sprint("above, flags ", w.Classes[got.Class].File.Flags)]++
			}
		}
	}
	if answers["none"] < 100 || answers["own"] < 100 || answers["above, flags 0"] < 30 || answers["above, flags 5"] < 30 {
		t.Error("too few", answers)
	}
}

// wantMethod holds what LookMethod answers against a second telling, and against promise 52.
func wantMethod(t *testing.T, seed int, w impl.World, class int, op int, name string, desc string) int {
	t.Helper()
	order, flag := []int{}, 0
	for at := class; at >= 0; at = w.Classes[at].Super {
		order = append(order, at)
	}
	isFace := w.Classes[class].File.Flags&impl.FlagFace != 0
	if op == impl.OpFace {
		order, flag = orderIn(w, class), impl.MemAbstract
	}
	want := foundIn(w, order, false, name+" "+desc, flag)
	code := impl.FaultFine
	switch {
	case isFace && op != impl.OpFace && op != impl.OpStatic, !isFace && op == impl.OpFace:
		want, code = noSlot, impl.FaultKind
	case want == noSlot:
		code = impl.FaultMethod
	}
	got, fault := impl.LookMethod(w, class, op, name, desc)
	if got != want || fault.Code != code || (fault.Name == w.Classes[class].Name) != (code != impl.FaultFine) {
		t.Fatal(seed, class, op, name, desc, got, fault, want, code)
	}
	if code == impl.FaultFine && !slices.Contains(impl.LookUp(w, class), got.Class) {
		t.Fatal(seed, class, op, name, desc, got)
	}
	return code
}

// Promise 52.
func TestPromiseLookMethod(t *testing.T) {
	t.Parallel()
	answers := map[string]int{}
	for seed := range 400 {
		d := newDice(seed)
		w := familyWorld(t, d)
		for class := range w.Classes {
			for _, op := range lookOps {
				name, desc := randomKey(d, false)
				answers[fmt.Sprint(op, " ", wantMethod(t, seed, w, class, op, name, desc))]++
			}
		}
	}
	for _, op := range lookOps {
		for _, code := range []int{impl.FaultFine, impl.FaultKind, impl.FaultMethod} {
			if op == impl.OpStatic && code == impl.FaultKind {
				continue
			}
			if answers[fmt.Sprint(op, " ", code)] < 30 {
				t.Error("too few", op, code, answers)
			}
		}
	}
}

// Promise 53.
func TestPromiseLookRow(t *testing.T) {
	t.Parallel()
	const hidden = impl.MemStatic | impl.MemPrivate
	answers := map[string]int{}
	for seed := range 700 {
		d := newDice(seed)
		w := familyWorld(t, d)
		for class, c := range w.Classes {
			name, desc := randomKey(d, false)
			got := impl.LookRow(w, class, name, desc)
			if c.State != impl.StateLinked {
				if got != noSlot {
					t.Fatal(seed, class, got)
				}
				continue
			}
			at, fault := impl.LookMethod(w, class, impl.OpVirtual, name, desc)
			switch {
			case fault.Code == impl.FaultFine && w.Classes[at.Class].File.Methods[at.At].Flags&hidden == 0:
				answers["found"]++
				if got != at {
					t.Fatal(seed, class, name, got, at)
				}
			case got == noSlot:
				answers["none"]++
			default:
				answers["another"]++
				m := w.Classes[got.Class].File.Methods[got.At]
				if !slices.Contains(impl.LookUp(w, class), got.Class) || m.Flags&hidden != 0 || keysIn(w.Classes[got.Class].File, false)[got.At] != name+" "+desc {
					t.Fatal(seed, class, name, got)
				}
			}
		}
	}
	if answers["found"] < 100 || answers["none"] < 100 || answers["another"] < 5 {
		t.Error("too few", answers)
	}
}
