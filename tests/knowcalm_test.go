package tests

import (
	"fmt"
	"reflect"
	"slices"
	"testing"

	"loop.example/stowage/impl"
)

// knowAnswer has room for what any function of knowing, tidying, traces and dropping answers.
type knowAnswer struct {
	Known   []impl.Know
	Numbers []int
	Class   impl.Class
	Loaders []impl.Loader
	Lines   []impl.Line
	Text    string
	World   impl.World
	Is      bool
}

// knowArgument is all that these functions are given.
type knowArgument struct {
	World  impl.World
	Class  impl.Class
	Start  impl.Start
	Lines  []impl.Line
	Loader int
	At     int
	Name   string
}

// knowCalls are all functions of knowing, tidying, traces and dropping.
var knowCalls = []struct {
	name string
	call func(a knowArgument) knowAnswer
}{
	{"KnowOf", func(a knowArgument) knowAnswer {
		return knowAnswer{Known: impl.KnowOf(a.Start.Loaders, a.Loader, a.Name, a.At)}
	}},
	{"KnowDeep", func(a knowArgument) knowAnswer { return knowAnswer{Numbers: impl.KnowDeep(a.Class, a.At)} }},
	{"TidyOf", func(a knowArgument) knowAnswer { return knowAnswer{Class: impl.TidyOf(a.Class)} }},
	{"TidyAll", func(a knowArgument) knowAnswer { return knowAnswer{Loaders: impl.TidyAll(a.Start.Loaders)} }},
	{"TraceOf", func(a knowArgument) knowAnswer { return knowAnswer{Lines: impl.TraceOf(a.Start)} }},
	{"TracePut", func(a knowArgument) knowAnswer { return knowAnswer{Text: impl.TracePut(a.Lines)} }},
	{"TraceMost", func(a knowArgument) knowAnswer { return knowAnswer{Numbers: impl.TraceMost(a.Lines)} }},
	{"DropLoader", func(a knowArgument) knowAnswer {
		w, ok := impl.DropLoader(a.World, a.Loader)
		return knowAnswer{World: w, Is: ok}
	}},
	{"DropCan", func(a knowArgument) knowAnswer { return knowAnswer{Numbers: impl.DropCan(a.World)} }},
}

// tells says whether an answer has something.
func (a knowAnswer) tells() bool {
	return !same(a, knowAnswer{}) && !same(a.Numbers, make([]int, impl.OpPrint+1))
}

// oddKnow is an argument with spare room, in which some things may be spoiled.
func oddKnow(t *testing.T, seed int) knowArgument {
	d := newDice(seed)
	numbers := append(slices.Repeat([]int{0, 1, 2, 0, 1, 2, 3, 4, 5}, 6), oddNumbers...)
	place := func() int { return numbers[d.below(len(numbers))] }
	a := knowArgument{World: oddWorld(t, seed), Class: oddClass(seed), Start: oddStart(t, seed), Lines: list(d, 40, func() impl.Line { return randomLine(d) }), Loader: place(), At: place()}
	a.Name = d.pick([]string{"A", "B", "C", "M", "M", "Q", "Obj", "Err", ""})
	switch d.below(5) {
	case 0:
		a.World, a.Class = threeWorld(t), classOf(randomProof(d))
		a.Start.Loaders, a.At = a.World.Loaders, d.below(2)
	case 1:
		a.World, a.Class = familyWorld(t, d), padded(d, classOf(randomLines(d)), true)
	case 2:
		a.Start, a.Class = paddedStart(d, randomStart(d)), randomClass(d)
		a.Loader, a.At = a.Start.Loader, d.below(6)
	}
	if d.below(12) == 0 {
		a.Name = d.text(d.below(300))
	}
	if d.below(3) == 0 {
		spoil(d, reflect.ValueOf(&a).Elem(), 1+d.below(900))
	}
	return roomy(reflect.ValueOf(a)).Interface().(knowArgument)
}

// Each function answers at everything, in new memory, and writes into no argument.
func TestCalmKnows(t *testing.T) {
	t.Parallel()
	told := map[string]int{}
	for seed := range 1000 {
		a := oddKnow(t, seed)
		before := frozen(a)
		for _, c := range knowCalls {
			var got knowAnswer
			calm(t, fmt.Sprint(c.name, " ", seed), func() { got = c.call(a) })
			wantNew(t, fmt.Sprint(c.name, " ", seed), got, a)
			if got.tells() {
				told[c.name]++
			}
			if got.Is {
				told["dropped"]++
			}
		}
		if frozen(a) != before {
			t.Fatalf("seed %d: an argument is written into", seed)
		}
	}
	for _, c := range knowCalls {
		if told[c.name] < 50 || told[c.name] == 1000 {
			t.Error("too few of some", c.name, told)
		}
	}
	if told["dropped"] < 30 {
		t.Error("too few", told)
	}
}

// Whoever answered first, an answer is the same, and writing into it changes no other one.
func TestCalmKnowsKeepNothing(t *testing.T) {
	t.Parallel()
	for seed := range 150 {
		a, other := oddKnow(t, seed), oddKnow(t, seed+1)
		for _, c := range knowCalls {
			first := c.call(a)
			before := dump(first, false)
			again := c.call(a)
			spoil(newDice(seed), reflect.ValueOf(&again).Elem(), 2)
			for _, o := range knowCalls {
				o.call(other)
			}
			if dump(first, false) != before || dump(c.call(a), false) != before {
				t.Fatal(seed, c.name)
			}
		}
	}
}

// What is written into behind a call does not change what was answered.
func TestCalmKnowsAreNew(t *testing.T) {
	src := tidyBy("nop / f: / new M / push 1 / nop / pop / pop / e: / give / h: / throw / trap f e h Err / frame e -,- . / frame h -,- LErr;")
	list := []impl.Loader{loaderOf(t, -1, src), {Parent: 0}}
	c := classOf(src)
	known, deeps, tidy, all := impl.KnowOf(list, 1, "M", 0), impl.KnowDeep(c, 0), impl.TidyOf(c), impl.TidyAll(list)
	before := dump([]any{knows(known), deeps, linesOf(tidy)}, false) + dump(all, false)
	c.Pool[0].Text, c.Methods[0].Traps[0].At, c.Methods[0].Frames[0].Locals[0].Tag = "Z", 0, 1
	list[0].Files[0].Name, list[0].Files[0].Text, list[1].Parent = "Z", "", -1
	if dump([]any{knows(known), deeps, linesOf(tidy)}, false)+dump(all, false) != before || len(known) != 8 {
		t.Error("an answer hangs on an argument", knows(known))
	}
	w := threeWorld(t)
	x, ok := impl.DropLoader(w, 2)
	y, no := impl.DropLoader(w, 0)
	before = dump(x, false) + dump(y, false)
	spoil(newDice(1), reflect.ValueOf(&w).Elem(), 1)
	if dump(x, false)+dump(y, false) != before || !ok || no || !impl.WorldOk(x) || !impl.WorldOk(y) {
		t.Error("a world hangs on another one")
	}
	s := startBy(t, mainBy(1, 0, "push 1 / print / give"))
	lines := impl.TraceOf(s)
	wantNew(t, "TraceOf", lines, s)
	s.Loaders[0].Files[0].Text, s.Loaders[0].Files[0].Name = "", "Z"
	if got := impl.TracePut(lines); got != "0:M.main@0 push\n0:M.main@3 print\n0:M.main@4 give\n" {
		t.Error(got)
	}
	// All marks of what is known are lists of their own.
	wantNew(t, "KnowOf", impl.KnowOf(threeWorld(t).Loaders, 2, "C", 0), list)
}
