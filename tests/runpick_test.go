package tests

import (
	"fmt"
	"testing"

	"loop.example/stowage/impl"
)

// pickStart does four steps, and has classes that it does not name.
func pickStart(t *testing.T, picks ...impl.Pick) impl.Start {
	t.Helper()
	bad := "class B Obj 0\nmethod f ()V 1 0 0\npop\n"
	zero := loaderOf(t, -1, "class A Obj 0\n"+begins(5)+bad+"class D A 0\nclass F A 0\n"+does("f", "()V", impl.MemFinal)+"class G F 0\n"+does("f", "()V", 0))
	s := startOf(zero, loaderOf(t, 0, mainOf(2, 0, "push 1\nprint\npush 2\nprint\ngive")))
	s.Fuel, s.Picks = 20, picks
	return s
}

func load0(at int, name string) impl.Pick {
	return impl.Pick{At: at, Kind: impl.PickLoad, Loader: 0, Name: name}
}

func link0(at int, name string) impl.Pick {
	return impl.Pick{At: at, Kind: impl.PickLink, Loader: 0, Name: name}
}

// A pick comes ahead of the step that is done behind so many.
func TestRunPicks(t *testing.T) {
	s := pickStart(t, load0(0, "A"))
	wantBoth(t, "at the beginning", s, "fine 5: 1 2")
	wantStates(t, s, 0, "M.main@0 ", "M 2 2, ")
	wantStates(t, s, 1, "M.main@3 ", "M 2 2, A 1 0, ")
	wantStates(t, s, 5, "", "M 2 2, A 1 0, ")
	s = pickStart(t, link0(2, "D"))
	wantBoth(t, "in the middle", s, "fine 5: 1 2")
	wantStates(t, s, 2, "M.main@4 ", "M 2 2, ")
	// It is linked, but it does not begin.
	wantStates(t, s, 3, "M.main@7 ", "M 2 2, A 2 0, D 2 0, ")
	// Several at one step are done in their order.
	s = pickStart(t, load0(1, "D"), link0(3, "A"), load0(1, "B"), link0(1, "F"))
	wantRun(t, "several", s, "fine 5: 1 2")
	wantStates(t, s, 1, "M.main@3 ", "M 2 2, ")
	wantStates(t, s, 2, "M.main@4 ", "M 2 2, A 2 0, D 1 0, B 1 0, F 2 0, ")
	wantStates(t, s, 4, "M.main@8 ", "M 2 2, A 2 0, D 1 0, B 1 0, F 2 0, ")
	// Each loader brings its own way.
	s = pickStart(t, impl.Pick{At: 1, Kind: impl.PickLoad, Loader: 1, Name: "A"})
	wantBoth(t, "by the other loader", s, "fine 5: 1 2")
	if r := impl.RunTo(s, 5); known(r.World) != "1:M=2 0:A=3 1:A=3" {
		t.Error(known(r.World))
	}
	// Obj and Err are there; what was linked is linked.
	s = pickStart(t, link0(0, "Obj"), load0(0, "Err"), impl.Pick{At: 0, Kind: impl.PickLink, Loader: 1, Name: "M"})
	wantBoth(t, "what is there", s, "fine 5: 1 2")
	wantStates(t, s, 1, "M.main@3 ", "M 2 2, ")
	// Behind the end nothing is picked.
	wantBoth(t, "behind the end", pickStart(t, load0(5, "Q"), load0(6, "Q"), load0(300, "Q")), "fine 5: 1 2")
	// A pick is no step, and needs no fuel; it comes ahead of a step that has none.
	s = pickStart(t, link0(1, "A"))
	s.Fuel = 1
	wantBoth(t, "ahead of no fuel", s, "fuel 1")
	if r := impl.RunTo(s, 2); r.End != impl.EndFuel || names(r.World) != "1:M 0:A" {
		t.Error(r.End, names(r.World))
	}
	if r := impl.RunTo(s, 1); r.End != impl.EndNot || names(r.World) != "1:M" {
		t.Error(r.End, names(r.World))
	}
	s.Picks = []impl.Pick{load0(1, "Q")}
	wantBoth(t, "a fault ahead of no fuel", s, "fault 1 Q 1")
}

// A pick with a fault ends the run; the world is as ahead of it.
func TestRunPickFaults(t *testing.T) {
	for _, c := range []struct {
		what  string
		want  string
		world string
		picks []impl.Pick
	}{
		{"at the beginning", "fault 1 Q 0", "M 2 2, ", []impl.Pick{load0(0, "Q")}},
		{"behind a step", "fault 1 Q 3: 1", "M 2 2, ", []impl.Pick{load0(3, "Q")}},
		{"behind all that is printed", "fault 1 Q 4: 1 2", "M 2 2, ", []impl.Pick{load0(4, "Q")}},
		{"behind another one", "fault 1 Q 2: 1", "M 2 2, A 1 0, ", []impl.Pick{load0(2, "A"), load0(2, "Q"), load0(2, "B")}},
		{"ahead of another one", "fault 1 Q 2: 1", "M 2 2, ", []impl.Pick{load0(2, "Q"), load0(2, "A")}},
		{"the first of two", "fault 1 Q 2: 1", "M 2 2, ", []impl.Pick{load0(2, "Q"), load0(2, "R")}},
		{"behind one at another step", "fault 1 Q 2: 1", "M 2 2, A 1 0, ", []impl.Pick{load0(2, "Q"), load0(1, "A")}},
		{"a link", "fault 11 G 1", "M 2 2, ", []impl.Pick{link0(1, "G")}},
		{"a link of what was brought", "fault 11 G 1", "M 2 2, A 1 0, F 1 0, G 1 0, ", []impl.Pick{load0(0, "G"), link0(1, "G")}},
	} {
		s := pickStart(t, c.picks...)
		wantBoth(t, c.what, s, c.want)
		a := impl.RunAll(s)
		r := impl.RunTo(s, a.Steps+1)
		if got := states(r.World); got != c.world {
			t.Errorf("%s: %s, wanted %s", c.what, got, c.world)
		}
		if r.End != impl.EndFault || len(r.Acts) != 1 || r.Fuel != 20-a.Steps {
			t.Error(c.what, r.End, acts(r), r.Fuel)
		}
	}
	// What is picked to be linked is proved, if all is.
	s := pickStart(t, link0(2, "B"))
	wantRun(t, "not proved", s, "fine 5: 1 2")
	s.Prove = true
	wantRun(t, "proved", s, "fault 12 B 2: 1")
	wantRun(t, "proved, but brought alone", impl.Start{Loaders: s.Loaders, Loader: 1, Name: "M", Fuel: 9, Prove: true, Picks: []impl.Pick{load0(2, "B")}}, "fine 5: 1 2")
	// A start with a fault has no picks.
	s.Picks, s.Name = []impl.Pick{load0(0, "Q")}, "X"
	wantRun(t, "no start", s, "fault 1 X 0")
	// A pick can bring what an op would refuse to be bound with.
	own := loaderOf(t, 0, mainOf(1, 0, "null\nstatic U take (LA;)V\ngive")+"class A Obj 0\n")
	bound := startOf(loaderOf(t, -1, "class A Obj 0\nclass U Obj 0\nmethod take (LA;)V 1 0 1\ngive\n"), own)
	wantBoth(t, "not picked", bound, "fine 4")
	bound.Picks = []impl.Pick{load0(0, "A"), {Kind: impl.PickLoad, Loader: 1, Name: "A"}}
	wantBoth(t, "picked", bound, "fault 5 A 2")
	bound.Picks[0].At, bound.Picks[1].At = 2, 2
	wantBoth(t, "picked behind the bond", bound, "fault 5 A 2")
	bound.Picks[1].At = 3
	wantBoth(t, "picked at two steps", bound, "fault 5 A 3")
}

// Promise 29: when classes are brought or linked changes no answer.
func TestRunPicksChangeNothing(t *testing.T) {
	for _, c := range runCases {
		s := opStart(t, c.ops)
		s.Prove = true
		plain := impl.RunAll(s)
		if plain.End == impl.EndFault {
			continue
		}
		for at := range 3 {
			for i, name := range []string{"A", "B", "C", "H", "K"} {
				s.Picks = []impl.Pick{{At: at, Kind: impl.PickLink, Loader: 2, Name: name}, {At: at + 1, Kind: impl.PickLoad, Loader: i % 3, Name: "F"}}
				a := impl.RunAll(s)
				if a.End == impl.EndFault && a.Fault.Code == impl.FaultNone {
					continue
				}
				if !same(a, plain) {
					t.Error(c.ops, fmt.Sprint(s.Picks), tellAnswer(a), tellAnswer(plain))
				}
			}
		}
	}
}

// RunTo tells all of a run, step by step.
func TestRunStates(t *testing.T) {
	src := "class M A 0\nfield k I 0\nmethod main ()V 1 2 1\nnew M\nrefstore 0\nrefload 0\npush 3\nvirtual A set (I)I\nprint\ngive\nclass A Obj 0\nfield n I 0\nfield r LA; 0\nfield s LA; 1\nfield c I 1\nmethod set (I)I 0 2 3\nrefload 0\nload 1\nput A n I\nrefload 0\nputall A s LA;\nload 1\ngiveint\n"
	s := startOf(loaderOf(t, -1, src))
	s.Prove, s.Fuel, s.Room = true, 30, 2
	wantBoth(t, "states", s, "fine 14: 3")
	number := func(n int) impl.Val { return impl.Val{Tag: impl.TagInt, Num: n} }
	ref := func(n int) impl.Val { return impl.Val{Tag: impl.TagRef, Num: n} }
	const a, m = 2, 3
	main := func(pc int, local impl.Val, stack ...impl.Val) impl.Act {
		return impl.Act{Class: m, At: 0, Pc: pc, Locals: []impl.Val{local}, Stack: stack, Begins: -1}
	}
	set := func(pc int, stack ...impl.Val) impl.Act {
		return impl.Act{Class: a, At: 0, Pc: pc, Locals: []impl.Val{ref(1), number(3), {}}, Stack: stack, Begins: -1}
	}
	zero := func(n int) impl.Obj {
		return impl.Obj{Class: m, Fields: []impl.Val{number(n), ref(0), number(0)}}
	}
	for steps, want := range []struct {
		acts []impl.Act
		heap []impl.Obj
		out  []int
	}{
		{acts: []impl.Act{main(0, impl.Val{})}},
		{acts: []impl.Act{main(3, impl.Val{}, ref(1))}, heap: []impl.Obj{zero(0)}},
		{acts: []impl.Act{main(5, ref(1))}, heap: []impl.Obj{zero(0)}},
		{acts: []impl.Act{main(7, ref(1), ref(1))}, heap: []impl.Obj{zero(0)}},
		{acts: []impl.Act{main(10, ref(1), ref(1), number(3))}, heap: []impl.Obj{zero(0)}},
		{acts: []impl.Act{main(10, ref(1)), set(0)}, heap: []impl.Obj{zero(0)}},
		{acts: []impl.Act{main(10, ref(1)), set(2, ref(1))}, heap: []impl.Obj{zero(0)}},
		{acts: []impl.Act{main(10, ref(1)), set(4, ref(1), number(3))}, heap: []impl.Obj{zero(0)}},
		{acts: []impl.Act{main(10, ref(1)), set(7)}, heap: []impl.Obj{zero(3)}},
		{acts: []impl.Act{main(10, ref(1)), set(9, ref(1))}, heap: []impl.Obj{zero(3)}},
		{acts: []impl.Act{main(10, ref(1)), set(12)}, heap: []impl.Obj{zero(3)}},
		{acts: []impl.Act{main(10, ref(1)), set(14, number(3))}, heap: []impl.Obj{zero(3)}},
		{acts: []impl.Act{main(13, ref(1), number(3))}, heap: []impl.Obj{zero(3)}},
		{acts: []impl.Act{main(14, ref(1))}, heap: []impl.Obj{zero(3)}, out: []int{3}},
		{heap: []impl.Obj{zero(3)}, out: []int{3}},
	} {
		r := impl.RunTo(s, steps)
		if !same(r.Acts, want.acts) || !same(r.Heap, want.heap) || !same(r.Out, want.out) || r.Steps != steps || r.Fuel != 30-steps {
			t.Errorf("behind %d steps: %v %v %v", steps, r.Acts, r.Heap, r.Out)
		}
		static := r.World.Classes[a].Statics
		if want := steps > 9; (static[2] == ref(1)) != want || !want && static[2] != ref(0) || static[3] != number(0) {
			t.Errorf("behind %d steps: %v", steps, static)
		}
	}
}
