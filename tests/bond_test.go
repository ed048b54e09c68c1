package tests

import (
	"fmt"
	"testing"

	"loop.example/stowage/impl"
)

// threeOfA are three loaders, each of which makes an A of its own.
func threeOfA(t *testing.T) impl.World {
	a := loaderOf(t, -1, srcA)
	return worldOf(t, a, a, a)
}

func wantBonds(t *testing.T, what string, w impl.World, want string) {
	t.Helper()
	if got := bonds(w); got != want {
		t.Errorf("%s: %s, wanted %s", what, got, want)
	}
}

func TestBindNothing(t *testing.T) {
	w := loadAll(t, loadAll(t, threeOfA(t), 0, "A"), 1, "A")
	w = bound(t, w, 0, 1, "B")
	for _, name := range []string{"Obj", "Err"} {
		if x := bound(t, w, 0, 1, name); !same(x, w) {
			t.Error(name, bonds(x))
		}
	}
	for loader := range 3 {
		for _, name := range []string{"A", "B", "Q"} {
			if x := bound(t, w, loader, loader, name); !same(x, w) {
				t.Error(loader, name, bonds(x))
			}
		}
	}
}

func TestBindSets(t *testing.T) {
	w := threeOfA(t)
	wantBonds(t, "two alone", bound(t, w, 0, 1, "A"), "A:01=-1")
	wantBonds(t, "the other way round", bound(t, w, 1, 0, "A"), "A:01=-1")
	wantBonds(t, "the first and the last", bound(t, w, 2, 0, "A"), "A:02=-1")
	two := bound(t, bound(t, w, 2, 1, "B"), 0, 1, "A")
	wantBonds(t, "two names", two, "B:12=-1 A:01=-1")
	wantBonds(t, "again, behind all", bound(t, two, 1, 2, "B"), "A:01=-1 B:12=-1")
	wantBonds(t, "one more, behind all", bound(t, two, 0, 2, "B"), "A:01=-1 B:012=-1")
	three := bound(t, two, 2, 0, "A")
	wantBonds(t, "from one to the next", three, "B:12=-1 A:012=-1")
	wantBonds(t, "all three again", bound(t, three, 1, 2, "A"), "B:12=-1 A:012=-1")
	wantBonds(t, "a name that nobody has", bound(t, w, 0, 1, "abcdefgh"), "abcdefgh:01=-1")
}

func TestBindWhatIsKnown(t *testing.T) {
	w := threeOfA(t)
	zero, one := loadAll(t, w, 0, "A"), loadAll(t, w, 1, "A")
	wantBonds(t, "the first knows it", bound(t, zero, 0, 1, "A"), "A:01=2")
	wantBonds(t, "the second knows it", bound(t, one, 0, 1, "A"), "A:01=2")
	wantBonds(t, "another name", bound(t, one, 0, 1, "B"), "B:01=-1")
	wantBonds(t, "a bond knows it", bound(t, bound(t, zero, 0, 1, "A"), 1, 2, "A"), "A:012=2")
	wantBonds(t, "who comes to a bond knows it", bound(t, bound(t, zero, 2, 1, "A"), 1, 0, "A"), "A:012=2")
	both := loadAll(t, zero, 1, "A")
	wantBindFault(t, both, 0, 1, "A", impl.FaultBond)
	wantBindFault(t, both, 1, 0, "A", impl.FaultBond)
	wantBonds(t, "one of both", bound(t, both, 2, 1, "A"), "A:12=3")
	wantBindFault(t, bound(t, both, 2, 1, "A"), 2, 0, "A", impl.FaultBond)
	wantBindFault(t, bound(t, both, 2, 1, "A"), 0, 2, "A", impl.FaultBond)
	wantBindFault(t, bound(t, both, 0, 2, "A"), 1, 2, "A", impl.FaultBond)
	// Two that know one class.
	given := loadAll(t, worldOf(t, loaderOf(t, -1, srcA), impl.Loader{Parent: 0}, impl.Loader{Parent: 0}), 1, "A")
	given = loadAll(t, given, 2, "A")
	wantBonds(t, "given by one", bound(t, given, 1, 2, "A"), "A:12=2")
	wantBonds(t, "made by one, given to the other", bound(t, bound(t, given, 1, 2, "A"), 0, 2, "A"), "A:012=2")
}

// A bond whose loaders come to know two classes only later.
func TestBindKnownLater(t *testing.T) {
	w := bound(t, threeOfA(t), 0, 1, "A")
	for first := range 2 {
		x, class := load(t, w, first, "A")
		wantBonds(t, "known by one", x, "A:01=2")
		if class != 2 {
			t.Error(class)
		}
		wantLoadFault(t, x, 1-first, "A", impl.FaultBond, "A")
		y, class := load(t, x, 2, "A")
		if class != 3 {
			t.Error(class)
		}
		wantBindFault(t, y, 2, first, "A", impl.FaultBond)
		wantBindFault(t, y, 2, 1-first, "A", impl.FaultBond)
	}
	// Each of two bonds has a class by then.
	list := []impl.Loader{loaderOf(t, -1, srcA), loaderOf(t, -1, srcA), {Parent: 0}}
	w = bound(t, worldOf(t, list...), 0, 2, "A")
	w = loadAll(t, loadAll(t, w, 1, "A"), 2, "A")
	wantBonds(t, "given to one", w, "A:02=3")
	wantBindFault(t, w, 1, 2, "A", impl.FaultBond)
}

func TestBindMost(t *testing.T) {
	w := loadAll(t, loadAll(t, threeOfA(t), 0, "A"), 1, "A")
	for i := range impl.BondMax {
		w = bound(t, w, 0, 1, fmt.Sprint("N", i))
	}
	if len(w.Bonds) != impl.BondMax || w.Bonds[39].Name != "N39" {
		t.Fatal(len(w.Bonds))
	}
	wantBindFault(t, w, 0, 1, "N40", impl.FaultFull)
	wantBindFault(t, w, 2, 1, "Z", impl.FaultFull)
	wantBindFault(t, w, 0, 1, "A", impl.FaultBond)
	if x := bound(t, w, 1, 0, "N7"); len(x.Bonds) != impl.BondMax || x.Bonds[39].Name != "N7" || x.Bonds[7].Name != "N8" {
		t.Error("again", bonds(x))
	}
	if x := bound(t, w, 2, 0, "N7"); len(x.Bonds) != impl.BondMax || !same(x.Bonds[39], impl.Bond{Name: "N7", Loaders: []int{0, 1, 2}, Class: -1}) {
		t.Error("one more loader", bonds(x))
	}
	for _, name := range []string{"Obj", "Err"} {
		if !same(bound(t, w, 0, 1, name), w) {
			t.Error(name)
		}
	}
	if !same(bound(t, w, 2, 2, "Z"), w) {
		t.Error("one loader")
	}
	w.Bonds = append(w.Bonds, impl.Bond{Name: "N40", Loaders: []int{0, 1}, Class: -1})
	if impl.WorldOk(w) {
		t.Error("one bond too many")
	}
}

// Promise 16.
func TestBindFromEitherSide(t *testing.T) {
	fine, faults := 0, 0
	for seed := range 3000 {
		d := newDice(seed)
		w := randomWorld(t, d)
		a, b, name := d.below(len(w.Loaders)), d.below(len(w.Loaders)), randomName(d)
		for _, loader := range []int{a, b} {
			if d.below(2) == 0 {
				w, _, _ = impl.WorldLoad(w, loader, name)
			}
		}
		x, f := impl.WorldBind(w, a, b, name)
		y, g := impl.WorldBind(w, b, a, name)
		if !same(x, y) || f != g {
			t.Fatal(seed, bonds(x), f, bonds(y), g)
		}
		if f.Code != impl.FaultFine {
			faults++
			if f != (impl.Fault{Code: impl.FaultBond, Name: name}) || !same(x, w) {
				t.Fatal(seed, f)
			}
			continue
		}
		fine++
		z, h := impl.WorldBind(x, a, b, name)
		if h.Code != 0 || len(z.Bonds) != len(x.Bonds) || !impl.WorldOk(x) || !impl.WorldOk(z) || !same(x.Classes, w.Classes) || !same(x.Known, w.Known) {
			t.Fatal(seed, bonds(x), bonds(z), h)
		}
	}
	if fine < 500 || faults < 20 {
		t.Error("too few", fine, faults)
	}
}

// Promises 17 and 18.
func TestBindMeansOne(t *testing.T) {
	one, two := 0, 0
	for seed := range 4000 {
		d := newDice(seed)
		w := impl.WorldNew(randomLoaders(t, d))
		many := len(w.Loaders)
		a, b, c, name := d.below(many), d.below(many), d.below(many), d.pick([]string{"A", "B"})
		if d.below(2) == 0 {
			w, _, _ = impl.WorldLoad(w, d.below(many), name)
		}
		x, f := impl.WorldBind(w, a, b, name)
		x, g := impl.WorldBind(x, b, c, name)
		if f.Code+g.Code > 0 {
			continue
		}
		for _, pair := range [][2]int{{a, b}, {b, a}, {a, c}, {c, a}} {
			y, first, f := impl.WorldLoad(x, pair[0], name)
			_, second, g := impl.WorldLoad(y, pair[1], name)
			if f.Code != 0 {
				continue
			}
			if g.Code == 0 && first != second {
				t.Fatal(seed, pair, first, second)
			}
			if pair[0] != pair[1] && g.Code == 0 {
				one++
			} else if g == (impl.Fault{Code: impl.FaultBond, Name: name}) {
				two++
			}
		}
	}
	if one < 50 || two < 50 {
		t.Error("too few", one, two)
	}
}
