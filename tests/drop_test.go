package tests

import (
	"fmt"
	"math"
	"slices"
	"strings"
	"testing"

	"loop.example/stowage/impl"
)

// toldWithout tells a world without a loader, classes by who made them and by what name, so that their places do not matter; nobody is left out, if the loader is -2.
func toldWithout(w impl.World, loader int) string {
	var b strings.Builder
	of := func(class int) string {
		if class < 0 {
			return "none"
		}
		return fmt.Sprint(w.Classes[class].Loader, ":", w.Classes[class].Name)
	}
	for at, c := range w.Classes {
		if c.Loader == loader {
			continue
		}
		fmt.Fprint(&b, of(at), " below ", of(c.Super), c.State, c.Begun, c.Statics, dump(c.File, false))
		for _, f := range c.Faces {
			fmt.Fprint(&b, " face ", of(f))
		}
		for _, s := range c.Slots {
			fmt.Fprint(&b, " slot ", of(s.Class), s.At)
		}
		for _, r := range c.Rows {
			fmt.Fprint(&b, " row ", r.Name, r.Desc, of(r.Class), r.At)
		}
		fmt.Fprintln(&b)
	}
	for _, k := range w.Known {
		if k.Loader != loader {
			fmt.Fprintln(&b, k.Loader, "knows", k.Name, of(k.Class))
		}
	}
	for _, bond := range w.Bonds {
		left, class := "", "none"
		for _, l := range bond.Loaders {
			if l == loader {
				continue
			}
			left += fmt.Sprint(l)
			for _, k := range w.Known {
				if k.Loader == l && k.Name == bond.Name {
					class = of(k.Class)
				}
			}
		}
		if len(left) > 1 {
			fmt.Fprintln(&b, "bond", bond.Name, left, class)
		}
	}
	return b.String()
}

// canDropIn says whether a loader can be dropped, told a second time.
func canDropIn(w impl.World, loader int) bool {
	for _, k := range w.Known {
		if k.Loader != loader && w.Classes[k.Class].Loader == loader {
			return false
		}
	}
	return true
}

// checkDrops holds dropping each loader of a world against a second telling, and against the promises 70 to 72.
func checkDrops(t *testing.T, what string, w impl.World) {
	t.Helper()
	can := impl.DropCan(w)
	if !slices.IsSorted(can) {
		t.Fatal(what, can)
	}
	for loader := range w.Loaders {
		x, ok := impl.DropLoader(w, loader)
		if ok != canDropIn(w, loader) || ok != slices.Contains(can, loader) {
			t.Fatal(what, loader, ok, can)
		}
		if !ok {
			if !same(x, w) {
				t.Fatal(what, loader, "is not as it was")
			}
			continue
		}
		if !impl.WorldOk(x) || !same(x.Loaders, w.Loaders) || toldWithout(x, -2) != toldWithout(w, loader) {
			t.Fatalf("%s, %d, ok %v:\n%swanted\n%s", what, loader, impl.WorldOk(x), toldWithout(x, -2), toldWithout(w, loader))
		}
		if y, again := impl.DropLoader(x, loader); !again || !same(y, x) {
			t.Fatal(what, loader, "again", again)
		}
		for _, other := range can {
			if !slices.Contains(impl.DropCan(x), other) {
				t.Fatal(what, loader, can, impl.DropCan(x))
			}
		}
		checkBroughtAgain(t, fmt.Sprint(what, " ", loader), w, x, loader)
	}
}

// checkBroughtAgain is promise 71: of each class alone, and of all, one behind the other.
func checkBroughtAgain(t *testing.T, what string, w impl.World, x impl.World, loader int) {
	t.Helper()
	brought := func(from impl.World, c impl.Cls) impl.World {
		y, class, fault := impl.WorldLoad(from, loader, c.Name)
		if fault != (impl.Fault{}) || y.Classes[class].Name != c.Name || y.Classes[class].Loader != loader || !same(y.Classes[class].File, c.File) {
			t.Fatal(what, c.Name, fault)
		}
		return y
	}
	all := x
	for _, c := range w.Classes {
		if c.Loader == loader {
			brought(x, c)
			all = brought(all, c)
		}
	}
}

// wantDrop drops a loader; the texts are what names, known and bonds tell then.
func wantDrop(t *testing.T, what string, w impl.World, loader int, classes string, knows string, bound string) impl.World {
	t.Helper()
	x, ok := impl.DropLoader(w, loader)
	if !ok || names(x) != classes || known(x) != knows || bonds(x) != bound {
		t.Errorf("%s: %v, %q %q %q", what, ok, names(x), known(x), bonds(x))
	}
	checkDrops(t, what, w)
	return x
}

// wantStays fails to drop a loader.
func wantStays(t *testing.T, what string, w impl.World, loader int) {
	t.Helper()
	if x, ok := impl.DropLoader(w, loader); ok || !same(x, w) {
		t.Error(what, ok)
	}
	checkDrops(t, what, w)
}

func wantCan(t *testing.T, what string, w impl.World, want ...int) {
	t.Helper()
	if got := impl.DropCan(w); !slices.Equal(got, want) {
		t.Errorf("%s: %v, wanted %v", what, got, want)
	}
}

// The only loader, with all that it made; a world in which nothing was brought.
func TestDropOnly(t *testing.T) {
	w := worldOf(t, loaderOf(t, -1, srcA+srcB))
	wantCan(t, "new", w, 0)
	if x, ok := impl.DropLoader(w, 0); !ok || !same(x, w) {
		t.Error("new", ok)
	}
	brought, class := load(t, w, 0, "B")
	for _, from := range []impl.World{brought, linked(t, brought, class)} {
		wantCan(t, "only", from, 0)
		if x := wantDrop(t, "only", from, 0, "", "", ""); !same(x, w) {
			t.Error("only")
		}
	}
	three := impl.WorldNew(soundLoaders(t))
	wantCan(t, "three, new", three, 0, 1, 2)
	checkDrops(t, "three, new", three)
}

// threeWorld has the classes A, F of the loader 0, B, G of 1, C, D of 2, each below those ahead; they were brought in turns.
func threeWorld(t *testing.T) impl.World {
	t.Helper()
	zero := "class A Obj 0\nfield a I 0\nfield s I 1\n" + does("f", "(LX;)V", 0) + does("g", "()V", 0) + "class F Obj 5\nfield z I 1\n" + asks("f", "(LX;)V")
	one := "class B A 0\nface F\nfield b LB; 0\n" + does("f", "(LX;)V", 0) + "class G Obj 5\nface F\n"
	two := "class C B 0\nface G\nface F\nfield c I 0\n" + does("g", "()V", 0) + does("h", "()V", 0) + "class D Obj 0\nfield d I 1\n"
	w := worldOf(t, loaderOf(t, -1, zero), loaderOf(t, 0, one), loaderOf(t, 1, two))
	w = loadAll(t, w, 2, "D")
	w, c := load(t, w, 2, "C")
	w = linked(t, w, c)
	w = linked(t, w, 2)
	if names(w) != "2:D 0:A 0:F 1:B 1:G 2:C" || bonds(w) != "X:01=-1" {
		t.Fatal(names(w), bonds(w))
	}
	return w
}

// Loaders above and below: one that others know classes of stays, until these are dropped.
func TestDropAboveAndBelow(t *testing.T) {
	w := threeWorld(t)
	wantCan(t, "all three", w, 2)
	for _, loader := range []int{0, 1} {
		wantStays(t, fmt.Sprint("known by others ", loader), w, loader)
	}
	x := wantDrop(t, "the last", w, 2, "0:A 0:F 1:B 1:G", "0:A=2 1:A=2 0:F=3 1:F=3 1:B=4 1:G=5", "X:01=-1")
	wantCan(t, "without the last", x, 1, 2)
	b, before := x.Classes[4], w.Classes[5]
	if b.Super != 2 || !same(b.Faces, []int{3}) || !same(b.Slots, []impl.Slot{{Class: 2}, {Class: 4}}) || rows(b) != "f(LX;)V 4.0, g()V 2.1" || b.State != impl.StateLinked || before.Super != 3 || rows(before) != "f(LX;)V 5.0, g()V 3.1" {
		t.Error(b, before)
	}
	y := wantDrop(t, "and the one ahead", x, 1, "0:A 0:F", "0:A=2 0:F=3", "")
	wantCan(t, "without two", y, 0, 1, 2)
	if z := wantDrop(t, "and the first", y, 0, "", "", ""); !same(z, impl.WorldNew(w.Loaders)) {
		t.Error("nothing is left")
	}
}

// The first loader, that nobody else asks: all places of others move.
func TestDropFirst(t *testing.T) {
	list := threeWorld(t).Loaders
	own := loaderOf(t, 2, "class P Obj 0\n"+"class A Q 0\nclass Q Obj 0\n")
	// The loader 2 is what 0 was in threeWorld, 1 is what 1 was.
	list = []impl.Loader{own, {Files: list[1].Files, Parent: 2}, list[0]}
	w := loadAll(t, worldOf(t, list...), 0, "P", "F")
	w, b := load(t, w, 1, "B")
	w = loadAll(t, w, 0, "A")
	w = linked(t, w, b)
	w = loadAll(t, w, 1, "G")
	w.Classes[4].Statics[1].Num, w.Classes[4].Begun = 77, impl.BeginRuns
	if names(w) != "0:P 2:F 2:A 1:B 0:Q 0:A 1:G" || bonds(w) != "X:12=-1" || !impl.WorldOk(w) {
		t.Fatal(names(w), bonds(w))
	}
	wantCan(t, "nobody knows what 0 made", w, 0, 1)
	x := wantDrop(t, "the first", w, 0, "2:F 2:A 1:B 1:G", "2:F=2 2:A=3 1:A=3 1:F=2 1:B=4 1:G=5", "X:12=-1")
	c := x.Classes[4]
	if c.Super != 3 || !same(c.Faces, []int{2}) || !same(c.Slots, []impl.Slot{{Class: 3}, {Class: 4}}) || rows(c) != "f(LX;)V 4.0, g()V 3.1" || !same(x.Classes[5].Faces, []int{2}) {
		t.Error(c)
	}
	if a := x.Classes[3]; !same(a.Statics, w.Classes[4].Statics) || a.Begun != impl.BeginRuns || !same(a.Slots, []impl.Slot{{Class: 3}}) || rows(a) != "f(LX;)V 3.0, g()V 3.1" {
		t.Error(a)
	}
	// The one in between, by whose way the first one knows nothing that it made.
	x = wantDrop(t, "the one in between", w, 1, "0:P 2:F 2:A 0:Q 0:A", "0:P=2 2:F=3 0:F=3 2:A=4 0:Q=5 0:A=6", "")
	wantCan(t, "behind that", x, 0, 1)
	wantStays(t, "the last, as the first knows a class of it", x, 2)
}

// One that made nothing, and knows what others made.
func TestDropWhoKnows(t *testing.T) {
	w := worldOf(t, loaderOf(t, -1, srcA+srcB), impl.Loader{Parent: 0}, loaderOf(t, 1, "", impl.Way{Name: "B", To: 0}))
	w = loadAll(t, w, 2, "A", "B")
	if known(w) != "0:A=2 1:A=2 2:A=2 0:B=3 2:B=3" {
		t.Fatal(known(w))
	}
	wantStays(t, "the one that made all", w, 0)
	x := wantDrop(t, "by its parent", w, 1, "0:A 0:B", "0:A=2 2:A=2 0:B=3 2:B=3", "")
	x = wantDrop(t, "by a way", x, 2, "0:A 0:B", "0:A=2 0:B=3", "")
	wantCan(t, "nobody else", x, 0, 1, 2)
	// Who knows nothing at all.
	w = loadAll(t, worldOf(t, impl.Loader{Parent: 1}, loaderOf(t, -1, srcA)), 1, "A")
	if x := wantDrop(t, "who knows nothing", w, 0, "1:A", "1:A=2", ""); !same(x, w) {
		t.Error("who knows nothing")
	}
}

// Two loaders that mean their own by one name.
func TestDropTwoOfOneName(t *testing.T) {
	w := worldOf(t, loaderOf(t, -1, srcA+srcB), loaderOf(t, 0, srcA+"class C A 0\n"))
	w = loadAll(t, w, 0, "B")
	w = loadAll(t, w, 1, "C")
	wantCan(t, "each its own", w, 0, 1)
	wantDrop(t, "the first", w, 0, "1:A 1:C", "1:A=2 1:C=3", "")
	wantDrop(t, "the second", w, 1, "0:A 0:B", "0:A=2 0:B=3", "")
	// One class of the other's is enough.
	w = loadAll(t, w, 1, "B")
	wantCan(t, "one of the other's", w, 1)
	wantStays(t, "one of the other's", w, 0)
}

// Bonds of two go with one of these; bonds of three lose one, and their class with it, if nobody else knows that.
func TestDropBonds(t *testing.T) {
	a := loaderOf(t, -1, "class A Obj 0\nclass B Obj 0\n")
	bare := worldOf(t, a, a, a)
	two := bound(t, bound(t, bound(t, bare, 0, 1, "X"), 1, 2, "Y"), 0, 2, "Z")
	wantDrop(t, "two", two, 0, "", "", "Y:12=-1")
	wantDrop(t, "two", two, 1, "", "", "Z:02=-1")
	wantDrop(t, "two", two, 2, "", "", "X:01=-1")
	three := bound(t, bound(t, bare, 0, 1, "A"), 2, 1, "A")
	others := []string{"12", "02", "01"}
	for loader := range others {
		wantDrop(t, "three", three, loader, "", "", "A:"+others[loader]+"=-1")
		// The class of one, that is known by it alone.
		one := loadAll(t, three, loader, "A", "B")
		for dropped := range others {
			classes, knows, class := fmt.Sprintf("%d:A %d:B", loader, loader), fmt.Sprintf("%d:A=2 %d:B=3", loader, loader), 2
			if dropped == loader {
				classes, knows, class = "", "", -1
			}
			wantDrop(t, fmt.Sprint("the class of ", loader, " without ", dropped), one, dropped, classes, knows, fmt.Sprint("A:", others[dropped], "=", class))
		}
	}
	// A bond of two, and its class.
	w := loadAll(t, bound(t, bare, 0, 1, "A"), 0, "B", "A")
	wantDrop(t, "with its class", w, 0, "", "", "")
	wantDrop(t, "the class stays", w, 1, "0:B 0:A", "0:B=2 0:A=3", "")
	wantDrop(t, "another one", w, 2, "0:B 0:A", "0:B=2 0:A=3", "A:01=3")
	// A class whose place moves, and which another one of the bond knows.
	w = worldOf(t, loaderOf(t, -1, srcB+"class P Obj 0\n"+srcA), loaderOf(t, -1, srcA), impl.Loader{Parent: 1})
	w = loadAll(t, bound(t, bound(t, w, 1, 2, "A"), 0, 2, "A"), 0, "P")
	w = bound(t, loadAll(t, w, 2, "A"), 0, 1, "Q")
	if bonds(w) != "A:012=3 Q:01=-1" {
		t.Fatal(bonds(w))
	}
	wantDrop(t, "a place that moves", w, 0, "1:A", "1:A=2 2:A=2", "A:12=2")
	wantStays(t, "who made it", w, 1)
	x := wantDrop(t, "who knows it", w, 2, "0:P 1:A", "0:P=2 1:A=3", "A:01=3 Q:01=-1")
	wantDrop(t, "and who made it", x, 1, "0:P", "0:P=2", "")
	// Order is kept.
	w = bare
	for _, name := range []string{"N3", "N1", "N2"} {
		w = bound(t, bound(t, w, 0, 1, name), 1, 2, name)
	}
	wantDrop(t, "order", w, 1, "", "", "N3:02=-1 N1:02=-1 N2:02=-1")
}

// As many bonds and classes as may be.
func TestDropMost(t *testing.T) {
	w := richWorld(t)
	w.Bonds = otherBonds(impl.BondMax)
	if !impl.WorldOk(w) {
		t.Fatal("not ok")
	}
	checkDrops(t, "as many bonds", w)
	w, _ = load(t, worldOf(t, chain(t, 11)...), 0, "N10")
	wantCan(t, "as many classes", w, 0)
	checkDrops(t, "as many classes", w)
	x := loadAll(t, worldOf(t, chain(t, 11)...), 1, "N10")
	checkDrops(t, "as many classes", x)
	if y := wantDrop(t, "as many classes", x, 1, "2:N1 2:N2 2:N3 2:N4 2:N5", "2:N1=2 2:N2=3 2:N3=4 2:N4=5 2:N5=6", ""); len(y.Classes) != 7 {
		t.Error(names(y))
	}
}

// Worlds that are not ok, and loaders that are not there.
func TestDropNotOk(t *testing.T) {
	none := func(what string, w impl.World, loader int) {
		t.Helper()
		if x, ok := impl.DropLoader(w, loader); ok || !same(x, impl.World{}) {
			t.Error("DropLoader of", what, loader, ok)
		}
	}
	for _, turn := range worldTurns() {
		w := richWorld(t)
		turn.turn(&w)
		for loader := range 4 {
			none(turn.name, w, loader)
		}
		if can := impl.DropCan(w); len(can) > 0 {
			t.Error("DropCan of", turn.name, can)
		}
	}
	for _, f := range loaderFaults {
		w := impl.WorldNew(soundLoaders(t))
		w.Loaders = f.turn(w.Loaders)
		none(f.name, w, 0)
		if can := impl.DropCan(w); len(can) > 0 {
			t.Error("DropCan of", f.name, can)
		}
	}
	for _, loader := range []int{-1, -2, 3, 4, math.MinInt, math.MaxInt} {
		none("a loader that is not there", richWorld(t), loader)
		none("a loader that is not there", threeWorld(t), loader)
	}
	none("nothing", impl.World{}, 0)
	if can := impl.DropCan(impl.World{}); len(can) > 0 {
		t.Error(can)
	}
	wantCan(t, "richWorld", richWorld(t), 2)
	checkDrops(t, "richWorld", richWorld(t))
}

// Promises 70 to 72, of worlds that were come to by some calls.
func TestPromiseDrop(t *testing.T) {
	t.Parallel()
	dropped, stayed, bonded, state := 0, 0, 0, 0
	for seed := range 1500 {
		d := newDice(seed)
		w := randomWorld(t, d)
		if d.below(3) == 0 {
			w = familyWorld(t, d)
		}
		checkDrops(t, fmt.Sprint("seed ", seed), w)
		for loader := range w.Loaders {
			x, ok := impl.DropLoader(w, loader)
			switch {
			case !ok:
				stayed++
			case len(x.Classes) < len(w.Classes):
				dropped++
				if len(w.Bonds) > 0 {
					bonded++
				}
				for _, c := range x.Classes[2:] {
					state += c.State - 1
				}
			}
		}
	}
	if dropped < 250 || stayed < 150 || bonded < 50 || state < 25 {
		t.Error("too few of some", dropped, stayed, bonded, state)
	}
}
