package tests

import (
	"fmt"
	"strings"
	"testing"

	"loop.example/stowage/impl"
)

// The document's example of chapter 9, as starts.
func TestRunExample(t *testing.T) {
	zero := "class A Obj 0\nmethod get ()I 0 1 1\npush 7\ngiveint\nclass U Obj 0\nmethod make ()LA; 1 1 0\nnew A\ngiveref\n"
	one := "class M Obj 0\nmethod main ()V 1 2 0\nstatic U make ()LA;\nvirtual A get ()I\nprint\npush 1\npush 0\ndiv\nprint\ngive\npop\npush 9\nprint\ngive\ntrap 7 15 16 Err\nframe 16 . LErr;\n"
	start := func(one string, fuel int, room int, ways ...impl.Way) impl.Start {
		s := startOf(loaderOf(t, -1, zero), loaderOf(t, 0, one, ways...))
		s.Fuel, s.Room = fuel, room
		return s
	}
	wantBoth(t, "one A", start(one, 100, 5), "fine 14: 7 9")
	two, way := one+"class A Obj 0\n", impl.Way{Name: "A", To: 0}
	wantBoth(t, "two A", start(two, 100, 5), "fault 5 A 4")
	wantBoth(t, "a way", start(two, 100, 5, way), "fine 14: 7 9")
	picked := func(fuel int, room int) impl.Start {
		s := start(two, fuel, room, way)
		s.Picks = []impl.Pick{{At: 2, Kind: impl.PickLink, Loader: 0, Name: "A"}}
		return s
	}
	wantBoth(t, "a pick", picked(3, 5), "fuel 3")
	wantBoth(t, "no room", picked(100, 0), "room A 2")
	wantBoth(t, "little room", picked(100, 1), "room Err 10: 7")
	b := startOf(loaderOf(t, -1, zero+"class B A 0\nmethod get ()I 0 1 1\nnull\ngiveint\n"))
	b.Name, b.Fuel, b.Room = "B", 9, 9
	wantRun(t, "not proved", b, "fault 8 B 0")
	b.Prove = true
	wantRun(t, "proved", b, "fault 12 B 0")
}

// findCases are entries that cannot be found, and the fault that tells it.
var findCases = []struct {
	ops, lay, want string
	refused        bool
}{
	{"get Q n I", "null", "1 Q", false}, {"put Q n I", "null / push 1", "1 Q", false}, {"getall Q n I", "", "1 Q", false}, {"putall Q n I", "push 1", "1 Q", false},
	{"virtual Q f ()I", "null", "1 Q", false}, {"special Q f ()I", "null", "1 Q", true}, {"static Q f ()I", "", "1 Q", false}, {"face Q f ()I", "null", "1 Q", false},
	{"new Q", "", "1 Q", false}, {"cast Q", "null", "1 Q", false}, {"is Q", "null", "1 Q", false},

	{"virtual F f ()I", "null", "4 F", false}, {"special F f ()I", "null", "4 F", true}, {"face A f ()I", "null", "4 A", false}, {"face Obj f ()I", "null", "4 Obj", false},
	{"virtual F zz ()I", "null", "4 F", false}, {"face A zz ()I", "null", "4 A", false}, {"new H", "", "4 H", false}, {"new F", "", "4 F", false},

	{"get A z I", "null", "7 A", false}, {"get A n LA;", "null", "7 A", false}, {"put B z I", "null / push 1", "7 B", false}, {"getall C s I", "", "7 C", false},
	{"putall F s I", "push 1", "7 F", false}, {"get Obj n I", "null", "7 Obj", false}, {"get F n I", "null", "7 F", false},

	{"virtual A zz ()I", "null", "8 A", false}, {"virtual B f ()V", "null", "8 B", false}, {"special A zz ()I", "null", "8 A", true}, {"static B zz ()I", "", "8 B", false},
	{"face F zz ()I", "null", "8 F", false}, {"face F t ()I", "null", "8 F", false}, {"static C t ()I", "", "8 C", false}, {"virtual Obj f ()I", "null", "8 Obj", false}, {"virtual C t ()I", "null", "8 C", false},

	{"get A p I", "null", "9 A", false}, {"put A p I", "null / push 1", "9 A", false}, {"get B p I", "null", "9 A", false}, {"virtual A x ()I", "null", "9 A", false}, {"special A x ()I", "null", "9 A", true},

	{"getall A n I", "", "10 A", false}, {"putall A n I", "push 1", "10 A", false}, {"get A s I", "null", "10 A", false}, {"put A s I", "null / push 1", "10 A", false},
	{"get B s I", "null", "10 A", false}, {"getall A p I", "", "10 A", false}, {"get C z I", "null", "10 F", false},
	{"static A f ()I", "", "10 A", false}, {"static A x ()I", "", "10 A", false}, {"virtual A t ()I", "null", "10 A", false}, {"special B t ()I", "null", "10 A", true}, {"virtual B t ()I", "null", "10 A", false},
}

// What cannot be found ends a run, ahead of all that is taken.
func TestRunFaultsOfFinding(t *testing.T) {
	for _, c := range findCases {
		steps := 3
		ops := "push 8 / print / " + c.ops + " / null / throw"
		if c.lay != "" {
			ops = "push 8 / print / " + c.lay + " / " + c.ops + " / null / throw"
			steps += strings.Count(c.lay, "/") + 1
		}
		want := strings.Fields(c.want)
		told := fmt.Sprint("fault ", want[0], " ", want[1], " ", steps, ": 8")
		s := opStart(t, ops)
		wantRun(t, c.ops, s, told)
		if s.Prove = true; !c.refused {
			wantRun(t, c.ops, s, told)
		}
		// With nothing to take, or other things.
		wantRun(t, c.ops, opStart(t, c.ops+" / give"), fmt.Sprint("fault ", want[0], " ", want[1], " 1"))
		wantRun(t, c.ops, opStart(t, "push 1 / push 1 / push 1 / push 1 / "+c.ops+" / give"), fmt.Sprint("fault ", want[0], " ", want[1], " 5"))
	}
}

// Who is private can be used by a class's own methods.
func TestRunPrivate(t *testing.T) {
	src := func(of string) string {
		return mainOf(3, 0, lines("new M / dup / push 4 / put "+of+" p I / get "+of+" p I / print / new M / virtual "+of+" x ()I / print / static "+of+" y ()I / print / push 2 / putall "+of+" q I / getall "+of+" q I / print / give")) +
			"field p I 2\nfield q I 3\nmethod x ()I 2 1 1\npush 5\ngiveint\nmethod y ()I 3 1 0\npush 6\ngiveint\n"
	}
	wantBoth(t, "own", startOf(loaderOf(t, -1, src("M"))), "fine 20: 4 5 6 2")
	// By a class below, what is private is found, and may be used.
	s := startOf(loaderOf(t, -1, strings.ReplaceAll(src("N"), "new M", "new N")+"class N M 0\n"))
	wantBoth(t, "by one below", s, "fine 20: 4 5 6 2")
	// A private method is not replaced by one below.
	below := "class N M 0\nmethod x ()I 0 1 1\npush 9\ngiveint\n"
	s = startOf(loaderOf(t, -1, strings.ReplaceAll(src("M"), "new M", "new N")+below))
	wantBoth(t, "what was found", s, "fine 20: 4 5 6 2")
	s = startOf(loaderOf(t, -1, mainOf(1, 0, "new N\nvirtual N x ()I\nprint\ngive")+"method x ()I 2 1 1\npush 5\ngiveint\n"+below))
	wantBoth(t, "what one below has", s, "fine 6: 9")
}

// What linking refuses ends a run at the op that would make it ready.
func TestRunFaultsOfLinking(t *testing.T) {
	final := "class A Obj 0\n" + does("f", "()V", impl.MemFinal) + "class B A 0\n" + does("f", "()V", 0) + "method s ()V 1 0 0\ngive\nfield n I 1\n"
	bad := "class B Obj 0\nmethod s ()V 1 0 0\ngive\nmethod f ()V 1 1 0\npop\ngive\nfield n I 1\nclass D B 0\n"
	for _, op := range []string{"new B / pop", "static B s ()V", "getall B n I / pop", "push 1 / putall B n I"} {
		ops := lines("push 1 / print / " + op + " / give")
		steps := 3 + strings.Count(op, "putall")
		s := startOf(loaderOf(t, -1, mainOf(1, 0, ops)+final))
		wantBoth(t, op, s, fmt.Sprint("fault 11 B ", steps, ": 1"))
		s = startOf(loaderOf(t, -1, mainOf(1, 0, ops)+bad))
		s.Prove = true
		wantRun(t, op, s, fmt.Sprint("fault 12 B ", steps, ": 1"))
		s.Prove = false
		if a := impl.RunAll(s); a.End != impl.EndFine {
			t.Error(op, tellAnswer(a))
		}
	}
	// One above it is told by its own name.
	s := startOf(loaderOf(t, -1, mainOf(1, 0, "new D\ngive")+bad))
	s.Prove = true
	wantRun(t, "above", s, "fault 12 B 1")
	// What is not made ready need not be linked.
	s = startOf(loaderOf(t, -1, mainOf(1, 0, "null\ncast B\nis D\nprint\nnull\ncast D\nget D m I\ngive")+bad))
	s.Prove = true
	wantRun(t, "not linked", s, "fault 7 D 7: 0")
}

// What cannot be brought ends a run, as chapter 5 tells it.
func TestRunFaultsOfBringing(t *testing.T) {
	run := func(what string, src string, ops string, want string) {
		t.Helper()
		wantBoth(t, what, startOf(loaderOf(t, -1, mainOf(1, 0, lines(ops))+src)), want)
	}
	run("no file", "", "push 1 / print / new Q / give", "fault 1 Q 3: 1")
	run("no file above", "class A Q 0\n", "new A / give", "fault 1 Q 1")
	run("a circle", "class A B 0\nclass B A 0\n", "new A / give", "fault 3 A 1")
	run("below a face", "class A F 0\nclass F Obj 5\n", "new A / give", "fault 4 A 1")
	s := startOf(loaderOf(t, -1, mainOf(1, 0, "new A\ngive")))
	s.Loaders[0].Files = append(s.Loaders[0].Files, impl.File{Name: "A", Text: "STOW"})
	wantBoth(t, "no class", s, "fault 2 A 1")
	// As many classes as may be, and one more.
	many := []impl.Loader{{Parent: -1}, {Parent: 0}, {Parent: 1}}
	ops := ""
	for i := range impl.ClassMax - 2 {
		name := fmt.Sprint("N", i)
		many[i/impl.FilesMax].Files = append(many[i/impl.FilesMax].Files, fileOf(t, "class "+name+" Obj 0"))
		ops += "new " + name + "\npop\n"
	}
	many[2].Files = []impl.File{fileOf(t, mainOf(1, 0, ops+"give"))}
	wantBoth(t, "one class too many", startOf(many...), "fault 6 N9 19")
	fewer := mainOf(1, 0, strings.TrimSuffix(ops, "new N9\npop\n")+"give")
	many[2].Files = []impl.File{fileOf(t, fewer)}
	wantBoth(t, "as many classes as may be", startOf(many...), "fine 19")
}

// down calls itself as often as it is told.
func down(own string, last string) string {
	return "method down (I)V 1 2 1\nload 0\nifzero x\nload 0\npush 1\nsub\nstatic " + own + " down (I)V\ngive\nx:\n" + last + "give\nframe x I .\n"
}

// As many methods as may be begun, and one more.
func TestRunMostActs(t *testing.T) {
	run := func(what string, n int, last string, more string, want string) {
		t.Helper()
		src := mainOf(1, 0, fmt.Sprint("push ", n, "\nstatic R down (I)V\ngive")) + "class R Obj 0\n" + down("R", last) + more
		wantBoth(t, what, startOf(loaderOf(t, -1, src)), want)
	}
	run("as many", impl.ActMax-2, "", "", "fine 76")
	run("one more", impl.ActMax-1, "", "", "deep R 68")
	run("many more", 100, "", "", "deep R 68")
	// It is told by the class whose method would come.
	run("of another class", impl.ActMax-2, "static S s ()V\n", "class S Obj 0\nmethod s ()V 1 0 0\ngive\n", "deep S 65")
	run("of one above", impl.ActMax-2, "static T s ()V\n", "class S Obj 0\nmethod s ()V 1 0 0\ngive\nclass T S 0\n", "deep S 65")
	run("the object's row", impl.ActMax-2, "new T\nvirtual S v ()V\n", "class S Obj 0\n"+does("v", "()V", 0)+"class T S 0\n"+does("v", "()V", 0), "deep T 66")
	begins := "class S Obj 0\nmethod begin ()V 1 0 0\ngive\nclass T S 0\n"
	run("a beginning", impl.ActMax-2, "new T\npop\n", begins, "deep S 65")
	run("a beginning that has room", impl.ActMax-3, "new T\npop\n", begins, "fine 73")
	run("no beginning", impl.ActMax-2, "new R\npop\n", "", "fine 78")
	// What fails needs no method.
	run("it fails", impl.ActMax-2, "push 1\npush 0\ndiv\npop\n", "", "thrown Err 67")
	// A method that is not there is told ahead of that.
	run("no row", impl.ActMax-2, "new K\nvirtual H h ()V\n", "class H Obj 4\n"+asks("h", "()V")+"class K H 0\n", "fault 8 R 66")
}

// As many objects as may be, and one more.
func TestRunRoom(t *testing.T) {
	run := func(room int, ops string, want string) {
		t.Helper()
		s := opStart(t, ops)
		s.Room = room
		wantBoth(t, fmt.Sprint(ops, " with room for ", room), s, want)
	}
	run(0, "null / pop / give", "fine 3")
	run(0, "new A / pop / give", "room A 1")
	run(1, "new A / pop / give", "fine 3")
	run(1, "new A / pop / new B / pop / give", "room B 3")
	run(2, "new A / pop / new B / pop / give", "fine 5")
	run(0, "push 4 / print / push 1 / push 0 / div / print / give", "room Err 5: 4")
	run(1, "push 4 / print / push 1 / push 0 / div / print / give", "thrown Err 5: 4")
	run(0, "null / throw", "room Err 2")
	run(1, "new A / cast B / pop / give", "room Err 2")
	run(1, "new A / throw", "thrown A 2")
	loop := "s: / new A / pop / go s / frame s -,- ."
	run(impl.RoomMax, loop, fmt.Sprint("room A ", 3*impl.RoomMax+1))
	run(0, "getall A s I / print / static A t ()I / print / give", "fine 7: 0 6")
	// Room is asked for ahead of a place for the object.
	s := startOf(opWorld(t, mainOf(0, 0, "new A\ngive"))...)
	wantRefused(t, "a place", s, "confused 1")
	s.Room = 0
	wantRefused(t, "room", s, "room A 1")
}

// As many steps as may be, and one less.
func TestRunFuel(t *testing.T) {
	for fuel := range 5 {
		s := opStart(t, "push 1 / print / give")
		s.Fuel = fuel
		wantBoth(t, "three steps", s, []string{"fuel 0", "fuel 1", "fuel 2: 1", "fine 3: 1", "fine 3: 1"}[fuel])
	}
	s := opStart(t, "s: / go s / frame s -,- .")
	wantBoth(t, "all", s, "fuel 300")
	if r := impl.RunTo(s, impl.FuelMax); r.End != impl.EndNot || r.Steps != impl.FuelMax || r.Fuel != 0 {
		t.Error("behind all steps", r.End, r.Steps)
	}
	if r := impl.RunTo(s, impl.FuelMax+1); r.End != impl.EndFuel || r.Steps != impl.FuelMax || len(r.Acts) != 1 {
		t.Error("behind one more", r.End, r.Steps)
	}
	// What would end otherwise does so only in a step.
	s = opStart(t, "pop / give")
	s.Fuel = 0
	wantRun(t, "confused", s, "fuel 0")
}

// Starts that cannot be run.
func TestRunFaultsOfStarts(t *testing.T) {
	run := func(what string, src string, want string) {
		t.Helper()
		s := startOf(loaderOf(t, -1, "class Z Obj 0\n"+src))
		s.Fuel, s.Room = 7, 3
		for _, s.Prove = range []bool{true, false} {
			wantRun(t, what, s, want)
			a := impl.RunAll(s)
			if a.End != impl.EndFault {
				continue
			}
			for _, steps := range []int{-1, 0, 1, 9} {
				told := impl.Run{World: impl.WorldNew(s.Loaders), Fuel: 7, Room: 3, Prove: s.Prove, End: impl.EndFault, Name: a.Name, Fault: a.Fault}
				if r := impl.RunTo(s, steps); !same(r, told) {
					t.Error(what, steps, r)
				}
			}
		}
	}
	run("fine", mainOf(0, 0, "give"), "fine 1")
	run("no class", "", "fault 1 M 0")
	run("no main", "class M Obj 0\n", "fault 8 M 0")
	run("another name", "class M Obj 0\nmethod Main ()V 1 0 0\ngive\n", "fault 8 M 0")
	run("another type", "class M Obj 0\nmethod main (I)V 1 0 1\ngive\n", "fault 8 M 0")
	run("another type", "class M Obj 0\nmethod main ()I 1 1 0\npush 1\ngiveint\n", "fault 8 M 0")
	for flags := range 8 {
		want := "fault 8 M 0"
		if flags == impl.MemStatic {
			want = "fine 1"
		}
		run(fmt.Sprint("flags ", flags), fmt.Sprint("class M Obj 0\nmethod main ()V ", flags, " 0 1\ngive\n"), want)
	}
	run("abstract", "class M Obj 4\n"+asks("main", "()V"), "fault 8 M 0")
	run("one above has it", "class M N 0\n"+strings.Replace(mainOf(0, 0, "give"), "class M", "class N", 1), "fault 8 M 0")
	run("two, one of another type", "class M Obj 0\nmethod main (I)V 1 0 1\ngive\nmethod main ()V 1 0 0\ngive\n", "fine 1")
	run("an abstract class", "class M Obj 4\nmethod main ()V 1 0 0\ngive\n", "fine 1")
	run("a face", "class M Obj 5\nmethod main ()V 1 0 0\ngive\n", "fine 1")
	run("it cannot be linked", "class M N 0\n"+does("f", "()V", 0)+"class N Obj 0\n"+does("f", "()V", impl.MemFinal), "fault 11 M 0")
	run("what is above it is not there", "class M Q 0\n", "fault 1 Q 0")
	// It is linked ahead of a look for its main.
	s := startOf(loaderOf(t, -1, "class M Obj 0\nmethod f ()V 1 0 0\npop\n"))
	wantRun(t, "not proved", s, "fault 8 M 0")
	s.Prove = true
	wantRun(t, "proved", s, "fault 12 M 0")
	for _, name := range []string{"Obj", "Err"} {
		s.Name = name
		wantRun(t, name, s, "fault 8 "+name+" 0")
	}
}

// Promise 22: a start that is not ok is not run.
func TestRunStartNotOk(t *testing.T) {
	fine := opStart(t, "give")
	for what, turn := range map[string]func(s *impl.Start){
		"Fuel below 0":          func(s *impl.Start) { s.Fuel = -1 },
		"Fuel above FuelMax":    func(s *impl.Start) { s.Fuel = impl.FuelMax + 1 },
		"Room below 0":          func(s *impl.Start) { s.Room = -1 },
		"Room above RoomMax":    func(s *impl.Start) { s.Room = impl.RoomMax + 1 },
		"no name":               func(s *impl.Start) { s.Name = "" },
		"a loader that is none": func(s *impl.Start) { s.Loader = 3 },
		"nobody":                func(s *impl.Start) { s.Loader = -1 },
		"no loaders":            func(s *impl.Start) { s.Loaders = nil },
		"too many picks":        func(s *impl.Start) { s.Picks = many(impl.PickMax+1, impl.Pick{Kind: 1, Name: "A"}) },
		"a pick that is none":   func(s *impl.Start) { s.Picks = []impl.Pick{{Kind: 3, Name: "A"}} },
		"nothing":               func(s *impl.Start) { *s = impl.Start{} },
	} {
		s := fine
		turn(&s)
		if a := impl.RunAll(s); impl.StartOk(s) || !same(a, impl.Answer{}) {
			t.Error(what, a)
		}
		for _, steps := range []int{-1, 0, 1, 301} {
			if r := impl.RunTo(s, steps); !same(r, impl.Run{}) {
				t.Error(what, steps, r)
			}
		}
	}
	wantBoth(t, "one that is ok", fine, "fine 1")
}
