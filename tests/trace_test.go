package tests

import (
	"fmt"
	"math"
	"slices"
	"strings"
	"testing"

	"loop.example/stowage/impl"
)

// wantTrace wants how a run ends, proved or not, and its steps, each as TracePut writes it, with ` / ` between.
func wantTrace(t *testing.T, what string, s impl.Start, end string, want string) {
	t.Helper()
	if got := tellAnswer(impl.RunAll(s)); got != end {
		t.Fatalf("%s: %s, wanted %s", what, got, end)
	}
	if want != "" {
		want = strings.ReplaceAll(want, " / ", "\n") + "\n"
	}
	lines := impl.TraceOf(s)
	if got := impl.TracePut(lines); got != want {
		t.Errorf("%s, proved %v:\n%swanted\n%s", what, s.Prove, got, want)
	}
	checkTrace(t, what, s, lines)
}

// checkTrace tells a trace a second time, by the run ahead of each step; promise 66.
func checkTrace(t *testing.T, what string, s impl.Start, lines []impl.Line) {
	t.Helper()
	a := impl.RunAll(s)
	if len(lines) != a.Steps {
		t.Fatal(what, len(lines), a.Steps)
	}
	for n, got := range lines {
		if n > 60 && n < a.Steps-12 {
			continue
		}
		r := impl.RunTo(s, n)
		last := r.Acts[len(r.Acts)-1]
		c := r.World.Classes[last.Class]
		m := c.File.Methods[last.At]
		want := impl.Line{Loader: c.Loader, Class: c.Name, Method: c.File.Pool[m.Name-1].Text, At: last.Pc, Op: -1, Deep: len(r.Acts)}
		ops, _ := impl.OpsGet(m.Code)
		for _, in := range ops {
			if in.At == last.Pc {
				want.Op = in.Op
			}
		}
		if got != want {
			t.Fatal(what, n, got, want)
		}
	}
	if prints := impl.TraceMost(lines)[impl.OpPrint]; s.Prove && prints != len(a.Out) {
		t.Fatal(what, prints, a.Out)
	}
}

func TestTraceEnds(t *testing.T) {
	main := func(deep int, list string, more ...string) impl.Start {
		return startBy(t, mainBy(deep, 0, list, more...))
	}
	both := func(what string, s impl.Start, end string, want string) {
		t.Helper()
		for _, s.Prove = range []bool{true, false} {
			wantTrace(t, what, s, end, want)
		}
	}
	both("one step", main(0, "give"), "fine 1", "0:M.main@0 give")
	both("fine", main(1, "push 1 / print / give"), "fine 3: 1", "0:M.main@0 push / 0:M.main@3 print / 0:M.main@4 give")
	both("thrown", main(1, "nop / null / throw"), "thrown Err 3", "0:M.main@0 nop / 0:M.main@1 null / 0:M.main@2 throw")
	both("it fails", main(2, "push 1 / push 0 / div / print / give"), "thrown Err 3", "0:M.main@0 push / 0:M.main@3 push / 0:M.main@6 div")
	both("thrown by one that was called", main(1, "static M s ()V / give", "method s ()V 1 1 0\n  null\n  throw\n"), "thrown Err 3", "0:M.main@0 static /   0:M.s@0 null /   0:M.s@1 throw")
	both("caught", main(1, "static M s ()V / give / pop / give", "trap 0 3 4 Err\nframe 4 . LErr;\n", "method s ()V 1 1 0\n  null\n  throw\n"), "fine 5", "0:M.main@0 static /   0:M.s@0 null /   0:M.s@1 throw / 0:M.main@4 pop / 0:M.main@5 give")
	both("a fault at a step", main(1, "push 7 / print / new Q / pop / give"), "fault 1 Q 3: 7", "0:M.main@0 push / 0:M.main@3 print / 0:M.main@4 new")
	both("no room", main(1, "new M / pop / new M / pop / give"), "fine 5", "0:M.main@0 new / 0:M.main@3 pop / 0:M.main@4 new / 0:M.main@7 pop / 0:M.main@8 give")
	little := main(1, "new M / pop / new M / pop / give")
	little.Room = 1
	both("no room", little, "room M 3", "0:M.main@0 new / 0:M.main@3 pop / 0:M.main@4 new")
	loop := main(0, "go 0", "frame 0 . .\n")
	loop.Fuel = 3
	both("no fuel", loop, "fuel 3", "0:M.main@0 go / 0:M.main@0 go / 0:M.main@0 go")
	loop.Fuel = 0
	both("no fuel at all", loop, "fuel 0", "")
	loop.Fuel = impl.FuelMax
	both("as much fuel as may be", loop, "fuel 300", strings.TrimSuffix(strings.Repeat("0:M.main@0 go / ", 300), " / "))
	// One that goes on and on in itself, until there are as many methods as may be.
	var deep []string
	for n := range impl.ActMax {
		deep = append(deep, strings.Repeat("  ", n)+"0:M.main@0 static")
	}
	both("too many methods", main(0, "static M main ()V / give"), "deep M 12", strings.Join(deep, " / "))
}

// Ends that a proof would refuse, and such as come ahead of the first step.
func TestTraceOtherEnds(t *testing.T) {
	confused := func(what string, list string, end string, want string) {
		t.Helper()
		s := startBy(t, mainBy(1, 1, list))
		wantTrace(t, what, s, end, want)
		s.Prove = true
		wantTrace(t, what+", proved", s, "fault 12 M 0", "")
	}
	confused("too few", "push 1 / pop / pop / give", "confused 3", "0:M.main@0 push / 0:M.main@3 pop / 0:M.main@4 pop")
	confused("too many", "push 1 / push 1 / give", "confused 2", "0:M.main@0 push / 0:M.main@3 push")
	confused("no number", "null / print / give", "confused 2", "0:M.main@0 null / 0:M.main@1 print")
	confused("no op", "push 1 / pop", "confused 3", "0:M.main@0 push / 0:M.main@3 pop / 0:M.main@4 end")
	confused("no op at all", "nop", "confused 2", "0:M.main@0 nop / 0:M.main@1 end")
	confused("another end", "push 1 / giveint", "confused 2", "0:M.main@0 push / 0:M.main@3 giveint")
	none := func(what string, src string, end string) {
		t.Helper()
		s := startBy(t, src)
		for _, s.Prove = range []bool{true, false} {
			wantTrace(t, what, s, end, "")
		}
	}
	none("no class", "class N Obj 0\n", "fault 1 M 0")
	none("no main", "class M Obj 0\n", "fault 8 M 0")
	none("what is above it is not there", "class M Q 0\n", "fault 1 Q 0")
	none("a class that is above itself", "class M N 0\nclass N M 0\n", "fault 3 M 0")
}

// Picks do no step: one with a fault ends the run ahead of its step.
func TestTracePicks(t *testing.T) {
	for _, c := range []struct {
		pick impl.Pick
		end  string
		want int
	}{
		{load0(0, "A"), "fine 5: 1 2", 5}, {link0(2, "D"), "fine 5: 1 2", 5}, {load0(0, "Q"), "fault 1 Q 0", 0}, {load0(1, "Q"), "fault 1 Q 1: ", 1},
		{link0(3, "G"), "fault 11 G 3: 1", 3}, {load0(4, "Q"), "fault 1 Q 4: 1 2", 4}, {load0(5, "Q"), "fine 5: 1 2", 5}, {load0(300, "Q"), "fine 5: 1 2", 5},
	} {
		s := pickStart(t, c.pick)
		all := strings.Split("1:M.main@0 push / 1:M.main@3 print / 1:M.main@4 push / 1:M.main@7 print / 1:M.main@8 give", " / ")
		for _, s.Prove = range []bool{true, false} {
			wantTrace(t, fmt.Sprint(c.pick), s, strings.TrimSuffix(c.end, ": "), strings.Join(all[:c.want], " / "))
		}
	}
	// One that has no fuel is picked for still, and does no step.
	s := pickStart(t, load0(1, "Q"))
	s.Fuel = 1
	wantTrace(t, "no fuel", s, "fault 1 Q 1", "1:M.main@0 push")
}

// Where a class begins, the op is there twice: once ahead of the beginning, once behind it.
func TestTraceBegins(t *testing.T) {
	begin := func(n int) string { return fmt.Sprint("method begin ()V 1 1 0\n  push ", n, "\n  print\n  give\n") }
	s := startBy(t, mainBy(1, 0, "new B / pop / give")+"class A Obj 0\n"+begin(1)+"class B A 0\n"+begin(2))
	want := "0:M.main@0 new /   0:A.begin@0 push /   0:A.begin@3 print /   0:A.begin@4 give / 0:M.main@0 new /   0:B.begin@0 push /   0:B.begin@3 print /   0:B.begin@4 give / 0:M.main@0 new / 0:M.main@3 pop / 0:M.main@4 give"
	wantTrace(t, "not proved", s, "fine 11: 1 2", want)
	s.Prove = true
	wantTrace(t, "proved", s, "fine 11: 1 2", want)
	// The class that is run begins ahead of its first op.
	s = startBy(t, mainBy(1, 0, "give", begin(3)))
	wantTrace(t, "its own", s, "fine 4: 3", "  0:M.begin@0 push /   0:M.begin@3 print /   0:M.begin@4 give / 0:M.main@0 give")
	s = startBy(t, mainBy(1, 0, "getall A s I / pop / getall A s I / pop / give")+"class A Obj 0\nfield s I 1\nmethod begin ()V 1 1 0\n  null\n  throw\n")
	wantTrace(t, "one that fails", s, "thrown Err 3", "0:M.main@0 getall /   0:A.begin@0 null /   0:A.begin@1 throw")
}

// A step that leaves all as it was is one, too; the loader is that of the class whose method it is.
func TestTraceLines(t *testing.T) {
	zero := "class A Obj 0\nmethod f ()V 0 0 1\n  give\nclass B A 0\n"
	one := "class C B 0\n" + "class A Obj 0\n"
	list := []impl.Loader{byLines(t, -1, zero), byLines(t, 0, one), byLines(t, 1, mainBy(1, 0, "nop / go 1 / give"))}
	s := startOf(list...)
	s.Fuel = 4
	wantTrace(t, "nothing is done", s, "fuel 4", "2:M.main@0 nop / 2:M.main@1 go / 2:M.main@1 go / 2:M.main@1 go")
	list[2] = byLines(t, 1, mainBy(1, 0, "new C / virtual C f ()V / give"))
	for _, s.Prove = range []bool{true, false} {
		s.Fuel = 9
		wantTrace(t, "another loader's method", s, "fine 4", "2:M.main@0 new / 2:M.main@3 virtual /   0:A.f@0 give / 2:M.main@6 give")
	}
	s.Name = "Obj"
	wantTrace(t, "Obj", s, "fault 8 Obj 0", "")
}

func TestTraceNotOk(t *testing.T) {
	if got := impl.TraceOf(startBy(t, mainBy(0, 0, "give"))); len(got) != 1 {
		t.Fatal(got)
	}
	turns := map[string]func(s *impl.Start){
		"nothing":           func(s *impl.Start) { *s = impl.Start{} },
		"no loader":         func(s *impl.Start) { s.Loader = 1 },
		"nobody":            func(s *impl.Start) { s.Loader = -1 },
		"no name":           func(s *impl.Start) { s.Name = "" },
		"another name":      func(s *impl.Start) { s.Name = "LM;" },
		"fuel below 0":      func(s *impl.Start) { s.Fuel = -1 },
		"too much fuel":     func(s *impl.Start) { s.Fuel = impl.FuelMax + 1 },
		"room below 0":      func(s *impl.Start) { s.Room = -1 },
		"too much room":     func(s *impl.Start) { s.Room = impl.RoomMax + 1 },
		"too many picks":    func(s *impl.Start) { s.Picks = many(impl.PickMax+1, load0(0, "M")) },
		"a pick of nobody":  func(s *impl.Start) { s.Picks = many(1, impl.Pick{Kind: 1, Loader: 1, Name: "M"}) },
		"a pick of no kind": func(s *impl.Start) { s.Picks = many(1, impl.Pick{Name: "M"}) },
	}
	for what, turn := range turns {
		s := startBy(t, mainBy(0, 0, "give"))
		if turn(&s); len(impl.TraceOf(s)) > 0 || impl.StartOk(s) {
			t.Error(what)
		}
	}
	for _, f := range loaderFaults {
		m := byLines(t, -1, mainBy(0, 0, "give")).Files[0]
		list := soundLoaders(t)
		list[0].Files[1] = m
		if got := impl.TraceOf(impl.Start{Loaders: list, Name: "M", Fuel: 9}); len(got) != 1 {
			t.Fatal(got)
		}
		if got := impl.TraceOf(impl.Start{Loaders: f.turn(list), Name: "M", Fuel: 9}); len(got) > 0 {
			t.Error(f.name, got)
		}
	}
}

// Promises 66 and 67, of starts that are made up.
func TestPromiseTrace(t *testing.T) {
	t.Parallel()
	ends := map[int]int{}
	for seed := range 900 {
		d := newDice(seed)
		s := randomStart(d)
		if d.below(3) == 0 {
			s = anyStart(t, d)
		}
		lines := impl.TraceOf(s)
		checkTrace(t, fmt.Sprint("seed ", seed), s, lines)
		ends[impl.RunAll(s).End]++
		less := s
		less.Fuel = d.below(s.Fuel + 1)
		first := impl.TraceOf(less)
		if len(first) > less.Fuel || !slices.Equal(first, lines[:min(less.Fuel, len(lines))]) {
			t.Fatal(seed, len(first), less.Fuel, len(lines))
		}
		if !slices.Equal(impl.TraceOf(s), lines) {
			t.Fatal(seed, "again")
		}
	}
	for end := impl.EndFine; end <= impl.EndConfused; end++ {
		if ends[end] < 5 {
			t.Error("too few", ends)
		}
	}
}

// How far a line stands in, with Deep below, at and above all that may be.
func TestTracePutDeep(t *testing.T) {
	for deep, blanks := range map[int]int{math.MinInt: 0, math.MinInt + 1: 0, -1: 0, 0: 0, 1: 0, 2: 2, 3: 4, 11: 20, 12: 22, 13: 24, 14: 24, 15: 24, 1000: 24, math.MaxInt: 24} {
		want := strings.Repeat(" ", blanks) + "0:A.f@0 nop\n"
		if got := impl.TracePut([]impl.Line{{Class: "A", Method: "f", Deep: deep}}); got != want {
			t.Errorf("%d: %q", deep, got)
		}
	}
}

// Each op by its word, and what is none; numbers and texts as they are.
func TestTracePutLines(t *testing.T) {
	for op, word := range opWords {
		if got := impl.TracePut([]impl.Line{{Loader: 2, Class: "Abc", Method: "main", At: 119, Op: op, Deep: 1}}); got != "2:Abc.main@119 "+word+"\n" {
			t.Errorf("%d: %q", op, got)
		}
	}
	for _, op := range []int{-1, -2, impl.OpPrint + 1, 255, math.MinInt, math.MaxInt} {
		if got := impl.TracePut([]impl.Line{{Class: "A", Method: "f", Op: op, Deep: 2}}); got != "  0:A.f@0 end\n" {
			t.Errorf("%d: %q", op, got)
		}
	}
	for _, c := range []struct {
		line impl.Line
		want string
	}{
		{impl.Line{}, "0:.@0 nop\n"},
		{impl.Line{Loader: -1, Class: "Obj", At: -1, Op: -1}, "-1:Obj.@-1 end\n"},
		{impl.Line{Loader: math.MinInt, At: math.MaxInt, Op: impl.OpGive}, "-9223372036854775808:.@9223372036854775807 give\n"},
		{impl.Line{Class: "a\nb", Method: "\xff ."}, "0:a\nb.\xff .@0 nop\n"},
	} {
		if got := impl.TracePut([]impl.Line{c.line}); got != c.want {
			t.Errorf("%q, wanted %q", got, c.want)
		}
	}
	if got := impl.TracePut(nil); got != "" {
		t.Error(got)
	}
}

// randomLine is a line of any numbers and texts.
func randomLine(d *dice) impl.Line {
	numbers := append([]int{0, 1, 2, 3, 12, 13, 14, 34, 35}, oddNumbers...)
	any := func() int { return numbers[d.below(len(numbers))] }
	l := impl.Line{Loader: any(), Class: d.pick(madeNames), Method: d.text(d.below(4)), At: any(), Op: any(), Deep: any()}
	if d.below(2) == 0 {
		l.Op = d.below(impl.OpPrint + 1)
	}
	return l
}

// Promises 68 and 69.
func TestPromiseTraceLists(t *testing.T) {
	for seed := range 2000 {
		d := newDice(seed)
		one, other := list(d, 30, func() impl.Line { return randomLine(d) }), list(d, 30, func() impl.Line { return randomLine(d) })
		both, text := append(append([]impl.Line{}, one...), other...), ""
		var want [impl.OpPrint + 1]int
		for _, l := range both {
			single := impl.TracePut([]impl.Line{l})
			if l.Op >= 0 && l.Op < len(want) {
				want[l.Op]++
				single = strings.TrimSuffix(single, " "+opWords[l.Op]+"\n")
			} else {
				single = strings.TrimSuffix(single, " end\n")
			}
			if told := fmt.Sprint(l.Loader, ":", l.Class, ".", l.Method, "@", l.At); strings.TrimLeft(single, " ") != told || len(single)-len(told) != 2*min(max(l.Deep, 1)-1, impl.ActMax) {
				t.Fatalf("seed %d: %q, wanted %q", seed, single, told)
			}
			text += impl.TracePut([]impl.Line{l})
		}
		if got := impl.TracePut(both); got != text {
			t.Fatalf("seed %d: %q", seed, got)
		}
		sum := impl.TraceMost(one)
		for op, n := range impl.TraceMost(other) {
			sum[op] += n
		}
		if got := impl.TraceMost(both); !slices.Equal(got, want[:]) || !slices.Equal(sum, got) {
			t.Fatal(seed, got, sum)
		}
	}
	if got := impl.TraceMost(nil); !slices.Equal(got, make([]int, impl.OpPrint+1)) {
		t.Error(got)
	}
}
