package tests

import (
	"fmt"
	"reflect"
	"testing"

	"loop.example/stowage/impl"
)

// anyStart is a start of a class with any ops, as far as its class is fine.
func anyStart(t *testing.T, d *dice) impl.Start {
	c := randomClass(d)
	c.Faces, c.Super, c.Flags = nil, []int{classObj, classErr}[d.below(2)], 0
	c.Pool = append(c.Pool, impl.Const{Kind: impl.ConstName, Text: "main"})
	for i := range c.Methods {
		if c.Methods[i].Flags&impl.MemAbstract != 0 {
			c.Methods[i].Flags = 0
			randomBody(d, &c.Methods[i])
		}
	}
	main := impl.Method{Flags: impl.MemStatic, Name: len(c.Pool), Desc: descBare}
	randomBody(d, &main)
	c.Methods = append(c.Methods[:min(len(c.Methods), 5)], main)
	b := d.pick([]string{"class B Obj 0\nfield x I 0\n", "class B Obj 0\nfield x I 1\n", "class B A 0\n", "class B Obj 5\nfield x I 1\n" + asks("get", "(ILB;)I"), ""})
	if b != "" && b[len(b)-2] != '8' {
		b += fmt.Sprint("method get (ILB;)I ", d.pick([]string{"0", "1"}), " 1 3\npush 5\ngiveint\n")
		if d.below(3) == 0 {
			b += begins(1)
		}
	}
	if code := impl.ClassCheck(c); code != impl.FormFine && code != impl.FormFile {
		t.Fatal("ClassCheck is ", code)
	}
	if b != "" && impl.ClassCheck(classOf(b)) != impl.FormFine {
		b = "class B Obj 0\n"
	}
	s := impl.Start{Loaders: []impl.Loader{{Files: []impl.File{{Name: "A", Text: impl.FilePut(c)}}, Parent: 1}, loaderOf(t, d.below(2)-1, b)}, Name: "A", Fuel: d.below(impl.FuelMax + 1), Room: d.below(impl.RoomMax + 1), Prove: d.below(4) == 0}
	if d.below(3) == 0 {
		s.Picks = list(d, impl.PickMax, func() impl.Pick {
			return impl.Pick{At: d.below(20), Kind: 1 + d.below(2), Loader: d.below(2), Name: d.pick([]string{"A", "B", "Obj", "Q"})}
		})
	}
	return s
}

// Whatever ops there are, a run ends, and tells the same by its steps.
func TestCalmRuns(t *testing.T) {
	t.Parallel()
	ends := map[int]int{}
	for seed := range 12000 {
		s := anyStart(t, newDice(seed))
		var a impl.Answer
		calm(t, fmt.Sprint("RunAll ", seed), func() { a = impl.RunAll(s) })
		ends[a.End]++
		if why := brokenPromise(s, a); why != "" {
			t.Fatalf("seed %d: %s: %s", seed, why, tellAnswer(a))
		}
		if seed%6 == 0 {
			calm(t, fmt.Sprint("RunTo ", seed), func() { checkSteps(t, fmt.Sprint("seed ", seed), s) })
		}
	}
	for _, end := range []int{impl.EndFine, impl.EndThrown, impl.EndFault, impl.EndFuel, impl.EndRoom, impl.EndConfused} {
		if ends[end] < 5 {
			t.Error("too few", ends)
		}
	}
}

// oddStart is a start of spare room, in which some things may be spoiled.
func oddStart(t *testing.T, seed int) impl.Start {
	d := newDice(seed)
	s := randomStart(d)
	if d.below(3) == 0 {
		s = anyStart(t, d)
	}
	s = roomy(reflect.ValueOf(s)).Interface().(impl.Start)
	if d.below(3) > 0 {
		spoil(d, reflect.ValueOf(&s).Elem(), 1+d.below(60))
	}
	return roomy(reflect.ValueOf(s)).Interface().(impl.Start)
}

// Each answer is new memory, and nothing is written into an argument.
func TestCalmStarts(t *testing.T) {
	t.Parallel()
	fine := 0
	for seed := range 4000 {
		s := oddStart(t, seed)
		steps := append([]int{0, 1, 5, 20, 100, 301}, oddNumbers...)[newDice(seed).below(6+len(oddNumbers))]
		before := frozen(s)
		var a impl.Answer
		var r impl.Run
		calm(t, fmt.Sprint("RunAll ", seed), func() { a = impl.RunAll(s) })
		calm(t, fmt.Sprint("RunTo ", seed), func() { r = impl.RunTo(s, steps) })
		if frozen(s) != before {
			t.Fatalf("seed %d: a run writes into its argument", seed)
		}
		wantNew(t, fmt.Sprint("RunAll ", seed), a, s)
		wantNew(t, fmt.Sprint("RunTo ", seed), r, s)
		if !impl.StartOk(s) {
			if !same(a, impl.Answer{}) || !same(r, impl.Run{}) {
				t.Fatal(seed, a)
			}
			continue
		}
		fine++
		if a.End == impl.EndNot || !same(r.World.Loaders, s.Loaders) {
			t.Fatal(seed, a)
		}
	}
	if fine < 1000 || fine > 3500 {
		t.Error("too few of some", fine)
	}
}

// Whoever answered first, an answer is the same, and writing into it changes no other one.
func TestCalmRunsKeepNothing(t *testing.T) {
	t.Parallel()
	for seed := range 300 {
		d := newDice(seed)
		s := randomStart(d)
		steps := d.below(40)
		r, a := impl.RunTo(s, steps), impl.RunAll(s)
		told, all := dump(r, false), dump(a, false)
		q, b := impl.RunTo(s, steps), impl.RunAll(s)
		spoil(d, reflect.ValueOf(&q).Elem(), 2)
		spoil(d, reflect.ValueOf(&b).Elem(), 2)
		impl.RunAll(randomStart(d))
		if dump(r, false) != told || dump(a, false) != all || dump(impl.RunTo(s, steps), false) != told || dump(impl.RunAll(s), false) != all {
			t.Fatal(seed)
		}
	}
}

// Nothing that a run leaves shares its memory, deep in its methods and objects, too.
func TestCalmRunsAreNew(t *testing.T) {
	for _, c := range runCases {
		s := opStart(t, c.ops)
		for steps := range 8 {
			wantNew(t, fmt.Sprint(c.ops, " ", steps), impl.RunTo(s, steps), s)
		}
	}
	s := opStart(t, "new A / refstore 0 / push 1 / print / new B / push 3 / refload 0 / virtual A g (ILA;)LA; / throw")
	r := impl.RunTo(s, 9)
	if len(r.Acts) != 2 || len(r.Heap) != 2 || len(r.Out) != 1 {
		t.Fatal(r.Acts, r.Heap, r.Out)
	}
	wantNew(t, "a run with all", r, s)
}
