package tests

import (
	"fmt"
	"reflect"
	"slices"
	"testing"

	"loop.example/stowage/impl"
)

// packAnswer has room for what any function of packing and of frames answers.
type packAnswer struct {
	Places  []int
	Text    string
	Class   impl.Class
	Loaders []impl.Loader
	Number  int
	Is      bool
}

// packArgument is all that these functions are given.
type packArgument struct {
	Class   impl.Class
	Entry   impl.Const
	Loaders []impl.Loader
	Loader  int
	At      int
	Name    string
}

// packCalls are all functions of packing and of frames.
var packCalls = []struct {
	name string
	call func(a packArgument) packAnswer
}{
	{"PackUsed", func(a packArgument) packAnswer { return packAnswer{Places: impl.PackUsed(a.Class)} }},
	{"PackText", func(a packArgument) packAnswer { return packAnswer{Text: impl.PackText(a.Class, a.At)} }},
	{"PackOf", func(a packArgument) packAnswer { return packAnswer{Class: impl.PackOf(a.Class)} }},
	{"PackAdd", func(a packArgument) packAnswer {
		c, place := impl.PackAdd(a.Class, a.Entry)
		return packAnswer{Class: c, Number: place}
	}},
	{"PackAll", func(a packArgument) packAnswer { return packAnswer{Loaders: impl.PackAll(a.Loaders)} }},
	{"FrameLess", func(a packArgument) packAnswer { return packAnswer{Class: impl.FrameLess(a.Class)} }},
	{"FrameFind", func(a packArgument) packAnswer {
		c, ok := impl.FrameFind(a.Loaders, a.Loader, a.Name)
		return packAnswer{Class: c, Is: ok}
	}},
	{"FrameMany", func(a packArgument) packAnswer { return packAnswer{Number: impl.FrameMany(a.Class)} }},
}

// oddPack is an argument with spare room, in which some things may be spoiled.
func oddPack(t *testing.T, seed int) packArgument {
	d := newDice(seed)
	numbers := append(slices.Repeat([]int{0, 1, 2, 0, 1, 2, 3, 4, 5}, 6), oddNumbers...)
	place := func() int { return numbers[d.below(len(numbers))] }
	a := packArgument{Class: oddClass(seed), Loaders: oddStart(t, seed).Loaders, Loader: place(), At: place(), Name: d.pick([]string{"A", "B", "C", "M", "M", "Q", "Obj", "Err", ""})}
	a.Entry = impl.Const{Kind: place(), Text: d.pick(madeNames), A: place(), B: place()}
	if d.below(3) > 0 {
		a.Class = anyClass(d)
		a.Entry = randomEntry(d, a.Class)
	}
	switch d.below(4) {
	case 0:
		a.Class = messed(d, soundClass())
		a.Loaders = loadersBy(t, classOf("class M A 0\n"))
		a.Loaders[0].Files[0].Text = impl.FilePut(unframed(d))
	case 1:
		a.Loaders = randomStart(d).Loaders
		a.Loader = len(a.Loaders) - 1
	}
	if d.below(12) == 0 {
		a.Name, a.Entry.Text = d.text(d.below(300)), d.text(d.below(300))
	}
	if d.below(3) == 0 {
		spoil(d, reflect.ValueOf(&a).Elem(), 1+d.below(900))
	}
	return roomy(reflect.ValueOf(a)).Interface().(packArgument)
}

// Each function answers at everything, in new memory, and writes into no argument.
func TestCalmPacks(t *testing.T) {
	t.Parallel()
	told := map[string]int{}
	for seed := range 1000 {
		a := oddPack(t, seed)
		before := frozen(a)
		for _, c := range packCalls {
			var got packAnswer
			calm(t, fmt.Sprint(c.name, " ", seed), func() { got = c.call(a) })
			wantNew(t, fmt.Sprint(c.name, " ", seed), got, a)
			if !same(got, packAnswer{}) {
				told[c.name]++
			}
			if got.Number > 0 {
				told["places"]++
			}
		}
		if frozen(a) != before {
			t.Fatalf("seed %d: an argument is written into", seed)
		}
	}
	for _, c := range packCalls {
		if told[c.name] < 50 || told[c.name] == 1000 {
			t.Error("too few of some", c.name, told)
		}
	}
	if told["places"] < 100 {
		t.Error("too few", told)
	}
}

// Whoever answered first, an answer is the same, and writing into it changes no other one.
func TestCalmPacksKeepNothing(t *testing.T) {
	t.Parallel()
	for seed := range 150 {
		a, other := oddPack(t, seed), oddPack(t, seed+1)
		for _, c := range packCalls {
			first := c.call(a)
			before := dump(first, false)
			again := c.call(a)
			spoil(newDice(seed), reflect.ValueOf(&again).Elem(), 2)
			for _, o := range packCalls {
				o.call(other)
			}
			if dump(first, false) != before || dump(c.call(a), false) != before {
				t.Fatal(seed, c.name)
			}
		}
	}
}

// What is written into behind a call does not change what was answered.
func TestCalmPacksAreNew(t *testing.T) {
	c := messed(newDice(1), classOf(foundBy("push 1 / ifzero e / new B / pop / e: / give / trap 0 3 e Err / frame e -,LB;,- I,N")))
	e := impl.Const{Kind: impl.ConstName, Text: "new"}
	list := loadersBy(t, c)
	list[0].Files[0].Text = textOf(t, foundBy("new C / push 1 / ifzero e / pop / new B / e: / pop / give"))
	x, place := impl.PackAdd(c, e)
	found, ok := impl.FrameFind(list, 0, "M")
	used, packed, less, all := impl.PackUsed(c), impl.PackOf(c), impl.FrameLess(c), impl.PackAll(list)
	if !ok || place != len(c.Pool)+1 || impl.FrameMany(found) != 4 || impl.FrameMany(packed) != 5 || len(used) == 0 {
		t.Fatal(ok, place, impl.FrameMany(found), impl.FrameMany(packed), used)
	}
	before := dump([]any{used, linesOf(packed), linesOf(less), linesOf(x), linesOf(found), poolWords(x.Pool)}, false) + dump(all, false)
	spoil(newDice(2), reflect.ValueOf(&c).Elem(), 1)
	spoil(newDice(3), reflect.ValueOf(&list[0]).Elem(), 1)
	if dump([]any{used, linesOf(packed), linesOf(less), linesOf(x), linesOf(found), poolWords(x.Pool)}, false)+dump(all, false) != before {
		t.Error("an answer hangs on an argument")
	}
}
