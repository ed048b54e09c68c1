package tests

import (
	"fmt"
	"reflect"
	"slices"
	"strings"
	"testing"

	"loop.example/stowage/impl"
)

// lookAnswer has room for what any function of looking, paths and names answers.
type lookAnswer struct {
	Places []int
	Slot   impl.Slot
	Fault  impl.Fault
	Place  int
	Is     bool
	Names  []string
	Pairs  []impl.Pair
}

// lookArgument is all that these functions are given.
type lookArgument struct {
	World  impl.World
	Class  impl.Class
	Loader int
	Other  int
	At     int
	Op     int
	Asked  string
	Name   string
	Desc   string
}

// lookCalls are all functions of looking, paths and names.
var lookCalls = []struct {
	name string
	call func(a lookArgument) lookAnswer
}{
	{"LookUp", func(a lookArgument) lookAnswer { return lookAnswer{Places: impl.LookUp(a.World, a.At)} }},
	{"LookFaces", func(a lookArgument) lookAnswer { return lookAnswer{Places: impl.LookFaces(a.World, a.At)} }},
	{"LookField", func(a lookArgument) lookAnswer {
		return lookAnswer{Slot: impl.LookField(a.World, a.At, a.Name, a.Desc)}
	}},
	{"LookMethod", func(a lookArgument) lookAnswer {
		slot, fault := impl.LookMethod(a.World, a.At, a.Op, a.Name, a.Desc)
		return lookAnswer{Slot: slot, Fault: fault}
	}},
	{"LookRow", func(a lookArgument) lookAnswer {
		return lookAnswer{Slot: impl.LookRow(a.World, a.At, a.Name, a.Desc)}
	}},
	{"PathOf", func(a lookArgument) lookAnswer {
		return lookAnswer{Places: impl.PathOf(a.World.Loaders, a.Loader, a.Asked)}
	}},
	{"PathMaker", func(a lookArgument) lookAnswer {
		return lookAnswer{Place: impl.PathMaker(a.World.Loaders, a.Loader, a.Asked)}
	}},
	{"PathSame", func(a lookArgument) lookAnswer {
		return lookAnswer{Is: impl.PathSame(a.World.Loaders, a.Loader, a.Other, a.Asked)}
	}},
	{"RefsOf", func(a lookArgument) lookAnswer { return lookAnswer{Names: impl.RefsOf(a.Class)} }},
	{"RefsReach", func(a lookArgument) lookAnswer {
		return lookAnswer{Pairs: impl.RefsReach(a.World.Loaders, a.Loader, a.Asked)}
	}},
}

// oddLook is an argument with spare room, in which some things may be spoiled.
func oddLook(t *testing.T, seed int) lookArgument {
	d := newDice(seed)
	numbers := append(slices.Repeat([]int{0, 1, 2, 3, 4, 5}, 6), oddNumbers...)
	place := func() int { return numbers[d.below(len(numbers))] }
	a := lookArgument{World: oddWorld(t, seed), Class: oddClass(seed), Loader: place(), Other: place(), At: place(), Op: impl.OpPutAll + d.below(6)}
	a.Name, a.Desc = randomKey(d, d.below(2) == 0)
	a.Asked = d.pick([]string{"A", "B", "C", "F", "M", "Q", "Obj", "Err", ""})
	switch d.below(6) {
	case 0:
		a.World = familyWorld(t, d)
	case 1:
		a.World, a.Class = linkedAll(t), classOf(randomLines(d))
		a.Name, a.Desc, _ = strings.Cut(d.pick([]string{"get ()I", "g ()I", "x I", "d I", "hid (LQ;)V", "ab ()V"}), " ")
	case 2:
		a.World.Loaders = randomStart(d).Loaders
	case 3:
		a.World, a.Class = richWorld(t), randomClass(d)
	}
	if d.below(12) == 0 {
		a.Name, a.Desc, a.Asked, a.Op = d.text(d.below(300)), d.text(d.below(300)), d.text(d.below(300)), place()
	}
	if d.below(3) == 0 {
		spoil(d, reflect.ValueOf(&a.World).Elem(), 1+d.below(900))
	}
	return roomy(reflect.ValueOf(a)).Interface().(lookArgument)
}

// Each function answers at everything, in new memory, and writes into no argument.
func TestCalmLooks(t *testing.T) {
	t.Parallel()
	told := map[string]int{}
	for seed := range 1200 {
		a := oddLook(t, seed)
		before := frozen(a)
		for _, c := range lookCalls {
			var got lookAnswer
			calm(t, fmt.Sprint(c.name, " ", seed), func() { got = c.call(a) })
			wantNew(t, fmt.Sprint(c.name, " ", seed), got, a)
			if len(got.Places)+len(got.Names)+len(got.Pairs) > 0 || got.Is || got.Slot.Class > 0 || got.Place > 0 {
				told[c.name]++
			}
			if got.Fault.Name != "" {
				told["faults"]++
			}
		}
		if frozen(a) != before {
			t.Fatalf("seed %d: an argument is written into", seed)
		}
	}
	for _, c := range lookCalls {
		if told[c.name] < 10 {
			t.Error("too few", c.name, told)
		}
	}
	if told["faults"] < 100 {
		t.Error("too few", told)
	}
}

// Whoever answered first, an answer is the same, and writing into it changes no other one.
func TestCalmLooksKeepNothing(t *testing.T) {
	t.Parallel()
	for seed := range 150 {
		a, other := oddLook(t, seed), oddLook(t, seed+1)
		for _, c := range lookCalls {
			first := c.call(a)
			before := dump(first, false)
			again := c.call(a)
			spoil(newDice(seed), reflect.ValueOf(&again).Elem(), 2)
			for _, o := range lookCalls {
				o.call(other)
			}
			if dump(first, false) != before || dump(c.call(a), false) != before {
				t.Fatal(seed, c.name)
			}
		}
	}
}

// A class that is written into behind a call does not change what was answered.
func TestCalmLooksAreNew(t *testing.T) {
	c := classOf("class A B 0\nface F\nfield x LC; 0\nmethod f (LD;)V 0 1 2\n  give\n")
	refs := impl.RefsOf(c)
	for i := range c.Pool {
		c.Pool[i] = impl.Const{Kind: impl.ConstName, Text: "Z"}
	}
	if !slices.Equal(refs, []string{"B", "C", "D", "F"}) {
		t.Error(refs)
	}
	list := []impl.Loader{loaderOf(t, -1, "class A B 0\n"), {Parent: 0}}
	path, all := impl.PathOf(list, 1, "A"), impl.RefsReach(list, 1, "A")
	list[0].Files[0].Name, list[1].Parent = "Z", -1
	if !slices.Equal(path, []int{1, 0}) || pairs(all) != "0:A 0:B 1:A" {
		t.Error(path, pairs(all))
	}
	if len(impl.PathOf(list, 1, "A")) > 0 || pairs(impl.RefsReach(list, 1, "A")) != "1:A" {
		t.Error("what was asked ahead is kept")
	}
	w := linkedAll(t)
	up, faces := impl.LookUp(w, lookD), impl.LookFaces(w, lookD)
	up[0], faces[0] = 77, 77
	if impl.LookUp(w, lookD)[0] != 0 || impl.LookFaces(w, lookD)[0] != lookF || !impl.WorldOk(w) {
		t.Error("an answer that is written into")
	}
}
