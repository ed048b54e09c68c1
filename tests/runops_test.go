package tests

import (
	"fmt"
	"math"
	"strings"
	"testing"

	"loop.example/stowage/impl"
)

// runCase is ops of a main, and how that ends.
type runCase struct {
	ops, want string
}

// runCases are of each op what it does in a run; what is fine for a proof is the same with it and without.
var runCases = []runCase{
	{"nop / give", "fine 2"},
	{"push 5 / print / push -32768 / print / push 32767 / print / give", "fine 7: 5 -32768 32767"},
	{"null / ifnull x / push 1 / print / x: / give / frame x -,- .", "fine 3"},
	{"new A / ifnull x / push 1 / print / x: / give / frame x -,- .", "fine 5: 1"},
	{"push 3 / store 1 / push 4 / load 1 / print / print / give", "fine 7: 3 4"},
	{"push 3 / store 0 / push 4 / store 1 / load 0 / print / load 1 / print / load 0 / print / give", "fine 11: 3 4 3"},
	{"null / refstore 0 / refload 0 / ifnull x / push 1 / print / x: / give / frame x LObj;,- .", "fine 5"},
	{"new A / refstore 1 / refload 1 / refload 1 / ifsame x / push 1 / print / x: / push 2 / print / give / frame x -,- .", "fine 8: 2"},
	{"push 1 / refload 0 / give", "fault 12 M 0"},
	{"push 1 / push 2 / pop / print / null / pop / give", "fine 7: 1"},
	{"push 1 / dup / print / print / give", "fine 5: 1 1"},
	{"push 1 / push 2 / swap / print / print / give", "fine 6: 1 2"},
	{"push 1 / null / swap / print / pop / give", "fine 6: 1"},
	{"push 7 / push 5 / add / print / give", "fine 5: 12"},
	{"push 7 / push 5 / sub / print / give", "fine 5: 2"},
	{"push 7 / push 5 / mul / print / give", "fine 5: 35"},
	{"push 7 / push 5 / div / print / push -7 / push 5 / div / print / push 7 / push -5 / div / print / push -7 / push -5 / div / print / give", "fine 17: 1 -1 -1 1"},
	{"push 0 / push 5 / div / print / give", "fine 5: 0"},
	{"push 5 / push 0 / div / print / give", "thrown Err 3"},
	{"push 0 / push 0 / div / print / give", "thrown Err 3"},
	{"push 0 / ifzero x / push 1 / print / x: / give / frame x -,- .", "fine 3"},
	{"push 1 / ifzero x / push 1 / print / x: / give / frame x -,- .", "fine 5: 1"},
	{"push -1 / ifzero x / push 1 / print / x: / give / frame x -,- .", "fine 5: 1"},
	{"push -1 / ifneg x / push 1 / print / x: / give / frame x -,- .", "fine 3"},
	{"push 0 / ifneg x / push 1 / print / x: / give / frame x -,- .", "fine 5: 1"},
	{"push 1 / ifneg x / push 1 / print / x: / give / frame x -,- .", "fine 5: 1"},
	{"null / null / ifsame x / push 1 / print / x: / give / frame x -,- .", "fine 4"},
	{"new A / new A / ifsame x / push 1 / print / x: / give / frame x -,- .", "fine 6: 1"},
	{"new A / null / ifsame x / push 1 / print / x: / give / frame x -,- .", "fine 6: 1"},
	{"go x / push 1 / print / x: / push 2 / print / give / frame x -,- .", "fault 12 M 0"},
	{"go x / y: / push 1 / print / x: / push 2 / print / give / frame x -,- . / frame y -,- .", "fine 4: 2"},

	{"new A / pop / new Obj / pop / new Err / pop / give", "fine 7"},
	{"new H / pop / give", "fault 4 H 1"},
	{"new F / pop / give", "fault 4 F 1"},
	{"new Q / pop / give", "fault 1 Q 1"},
	{"new A / get A n I / print / give", "fine 4: 0"},
	{"new A / dup / push 9 / put A n I / get A n I / print / give", "fine 7: 9"},
	{"new A / refstore 0 / new A / refstore 1 / refload 0 / push 9 / put A n I / refload 1 / get A n I / print / refload 0 / get A n I / print / give", "fine 14: 0 9"},
	{"new B / dup / push 9 / put B n I / dup / get B n I / print / get A n I / print / give", "fine 10: 9 0"},
	{"new B / dup / push 9 / put A n I / dup / get B n I / print / get A n I / print / give", "fine 10: 0 9"},
	{"new A / get A r LA; / ifnull x / push 1 / print / x: / give / frame x -,- .", "fine 4"},
	{"new A / dup / new B / put A r LA; / get A r LA; / virtual A f ()I / print / give", "fine 10: 8"},
	{"new A / dup / dup / put A r LA; / dup / get A r LA; / ifsame x / push 1 / print / x: / give / frame x -,- .", "fine 8"},
	{"new C / dup / new A / put C m LObj; / get C m LObj; / cast A / get A n I / print / give", "fine 9: 0"},
	{"null / get A n I / print / give", "thrown Err 2"},
	{"null / push 1 / put A n I / give", "thrown Err 3"},
	{"null / null / put A r LA; / give", "thrown Err 3"},
	{"getall A s I / print / give", "fine 3: 0"},
	{"push 4 / putall A s I / getall A s I / print / getall B s I / print / give", "fine 7: 4 4"},
	{"push 4 / putall B s I / getall A s I / print / give", "fine 5: 4"},
	{"getall A q LA; / ifnull x / push 1 / print / x: / give / frame x -,- .", "fine 3"},
	{"new B / putall A q LA; / getall A q LA; / virtual A f ()I / print / give", "fine 8: 8"},
	{"getall C z I / print / push 2 / putall F z I / getall C z I / print / getall H z I / print / give", "fine 9: 0 2 2"},
	{"new A / putall F y LF; / getall C y LF; / is A / print / give", "fine 6: 1"},

	{"new A / virtual A f ()I / print / give", "fine 6: 7"},
	{"new B / virtual A f ()I / print / give", "fine 6: 8"},
	{"new B / virtual B f ()I / print / give", "fine 6: 8"},
	{"new B / virtual B own ()I / print / give", "fine 9: 5"},
	{"new B / virtual B up ()I / print / give", "fine 9: 7"},
	{"new A / push 3 / new B / virtual A g (ILA;)LA; / virtual A f ()I / print / give", "fine 13: 3 8"},
	{"new A / virtual A v ()V / give", "fine 4"},
	{"null / virtual A f ()I / print / give", "thrown Err 2"},
	{"null / push 3 / null / virtual A g (ILA;)LA; / pop / give", "thrown Err 4"},
	{"new K / virtual H h ()I / print / give", "fault 8 M 2"},
	{"new K / virtual K h ()I / print / give", "fault 8 M 2"},
	{"static A t ()I / print / static B t ()I / print / give", "fine 9: 6 6"},
	{"static F t ()I / print / give", "fine 5: 3"},
	{"new C / face F f ()I / print / give", "fine 6: 9"},
	{"new A / face F f ()I / print / give", "fault 4 A 2"},
	{"new Obj / face F f ()I / print / give", "fault 4 Obj 2"},
	{"new K / face F f ()I / print / give", "fault 8 M 2"},
	{"null / face F f ()I / print / give", "thrown Err 2"},
	{"new B / cast A / cast B / cast Obj / cast B / pop / give", "fine 7"},
	{"null / cast A / cast F / cast Err / pop / give", "fine 6"},
	{"null / cast Q / pop / give", "fault 1 Q 2"},
	{"new C / cast F / pop / give", "fine 4"},
	{"new K / cast F / pop / give", "fine 4"},
	{"new A / cast B / pop / give", "thrown Err 2"},
	{"new A / cast F / pop / give", "thrown Err 2"},
	{"new A / cast Err / pop / give", "thrown Err 2"},
	{"new B / is A / print / new B / is B / print / new A / is B / print / null / is A / print / null / is Obj / print / new C / is F / print / new A / is F / print / give", "fine 22: 1 1 0 0 0 1 0"},
	{"new E / is Err / print / new Err / is E / print / new Err / is Obj / print / give", "fine 10: 1 0 1"},
	{"null / is Q / print / give", "fault 1 Q 2"},
	{"new A / throw", "thrown A 2"},
	{"new E / throw", "thrown E 2"},
	{"null / throw", "thrown Err 2"},
	{"push 1 / print / give / x: / push 2 / print / give / frame x -,- .", "fine 3: 1"},
}

func TestRunOps(t *testing.T) {
	for _, c := range runCases {
		s := opStart(t, c.ops)
		if c.want == "fault 12 M 0" {
			s.Prove = true
			wantRun(t, c.ops, s, c.want)
			continue
		}
		wantBoth(t, c.ops, s, c.want)
	}
}

func wrapped(n int) int {
	return int(int32(n))
}

// Numbers are reckoned in 32 bits.
func TestRunReckoning(t *testing.T) {
	const most = "push 32767 / push 2 / mul / push 2 / add / push 32767 / mul / push 32767 / add / "
	least := "push -32768 / push 32767 / push 2 / mul / push 2 / add / mul / "
	for _, c := range []struct {
		ops  string
		want int
	}{
		{least + "print", math.MinInt32},
		{least + "push 1 / sub / print", math.MaxInt32},
		{least + "push -1 / div / print", math.MinInt32},
		{least + "push -1 / mul / print", math.MinInt32},
		{least + "dup / add / print", 0},
		{least + "push 1 / sub / push 1 / add / print", math.MinInt32},
		{least + "push 2 / div / print", math.MinInt32 / 2},
		{"push 0 / " + least + "sub / print", math.MinInt32},
		{most + "print", 65536*32767 + 32767},
		{most + "dup / mul / print", wrapped((65536*32767 + 32767) * (65536*32767 + 32767))},
	} {
		s := opStart(t, c.ops+" / give")
		s.Prove = true
		if a := impl.RunAll(s); a.End != impl.EndFine || len(a.Out) != 1 || a.Out[0] != c.want {
			t.Error(c.ops, tellAnswer(a), c.want)
		}
	}
	for _, a := range []int{-32768, -32767, -255, -2, -1, 0, 1, 2, 7, 256, 32766, 32767} {
		for _, b := range []int{-32768, -32767, -255, -2, -1, 0, 1, 2, 7, 256, 32766, 32767} {
			ops := fmt.Sprintf("push %d / push %d / add / print / push %d / push %d / sub / print / push %d / push %d / mul / print / push %d / push %d / div / print / give", a, b, a, b, a, b, a, b)
			out := fmt.Sprint(": ", a+b, " ", a-b, " ", a*b)
			want := "thrown Err 15" + out
			if b != 0 {
				want = fmt.Sprint("fine 17", out, " ", a/b)
			}
			if got := tellAnswer(impl.RunAll(opStart(t, ops))); got != want {
				t.Error(a, b, got, want)
			}
		}
	}
}

// takenBy are, for each op that takes something, what it takes, the first one first: `I` a number, `R` an object, `.` either.
var takenBy = []struct {
	op    string
	takes string
	ends  bool
}{
	{"store 0", "I", false}, {"refstore 0", "R", false}, {"pop", ".", false}, {"dup", ".", false}, {"swap", "..", false},
	{"add", "II", false}, {"sub", "II", false}, {"mul", "II", false}, {"div", "II", false},
	{"ifzero x", "I", false}, {"ifneg x", "I", false}, {"ifnull x", "R", false}, {"ifsame x", "RR", false},
	{"get A n I", "R", false}, {"get A r LA;", "R", false}, {"put A n I", "RI", false}, {"put A r LA;", "RR", false}, {"putall A s I", "I", false}, {"putall A q LA;", "R", false},
	{"virtual A f ()I", "R", false}, {"virtual A g (ILA;)LA;", "RIR", false}, {"special A f ()I", "R", false}, {"special A g (ILA;)LA;", "RIR", false},
	{"static M s (ILA;)V", "IR", false}, {"static M t (LA;I)V", "RI", false}, {"face F f ()I", "C", false},
	{"cast A", "R", false}, {"is A", "R", false}, {"throw", "R", true}, {"print", "I", false},
}

// A value that is taken must be there, and be of its tag.
func TestRunTakes(t *testing.T) {
	does := "method s (ILA;)V 1 0 2\ngive\nmethod t (LA;I)V 1 0 2\ngive\n"
	lays := map[rune]string{'I': "push 3\n", 'R': "new A\n", 'C': "new C\n"}
	other := map[rune]string{'I': "new A\n", 'R': "push 1\n", 'C': "push 1\n"}
	for _, c := range takenBy {
		try := func(what string, ahead string, fine bool) {
			t.Helper()
			src := mainOf(4, 2, ahead+c.op+"\nx:\npush 77\nprint\ngive\nframe x -,- .") + does
			s := startOf(opWorld(t, src)...)
			a := impl.RunAll(s)
			went := len(a.Out) > 0 && a.Out[len(a.Out)-1] == 77 || c.ends && a.End == impl.EndThrown
			steps := strings.Count(ahead, "\n") + 1
			if went != fine || !fine && tellAnswer(a) != fmt.Sprint("confused ", steps) {
				t.Errorf("%s, %s: %s", c.op, what, tellAnswer(a))
			}
			checkSteps(t, c.op, s)
		}
		takes := []rune(c.takes)
		ahead := func(list []rune) string {
			out := ""
			for _, k := range list {
				if k == '.' {
					k = 'I'
				}
				out += lays[k]
			}
			return out
		}
		try("as it must be", ahead(takes), true)
		for i, k := range takes {
			try("too few", ahead(takes[i+1:]), false)
			if k == '.' {
				try("an object", ahead(takes[:i])+"null\n"+ahead(takes[i+1:]), true)
				continue
			}
			try(fmt.Sprint("another one at ", i), ahead(takes[:i])+other[k]+ahead(takes[i+1:]), false)
			if k == 'I' {
				try("no object for a number", ahead(takes[:i])+"null\n"+ahead(takes[i+1:]), false)
			}
		}
	}
}

// A local that is loaded must be of its tag.
func TestRunLoads(t *testing.T) {
	for _, c := range []runCase{
		{"load 0 / give", "confused 1"},
		{"refload 0 / give", "confused 1"},
		{"null / refstore 0 / load 0 / give", "confused 3"},
		{"push 1 / store 0 / refload 0 / give", "confused 3"},
		{"push 1 / store 0 / load 1 / give", "confused 3"},
		{"push 1 / store 0 / null / refstore 0 / load 0 / give", "confused 5"},
		{"nop", "confused 2"},
		{"push 1 / print", "confused 3: 1"},
		{"push 1 / print / push 1 / ifzero x / x: / nop / frame x -,- .", "confused 6: 1"},
	} {
		wantRefused(t, c.ops, opStart(t, c.ops), c.want)
	}
}

// A value that is put must have a place.
func TestRunDeep(t *testing.T) {
	for _, c := range []struct {
		ops  string
		deep int
		want string
	}{
		{"push 1", 1, "confused 1"}, {"null", 1, "confused 1"}, {"load 0", 1, "confused 4"}, {"refload 1", 1, "confused 4"}, {"push 1 / dup", 2, "confused 2"},
		{"new A", 1, "confused 1"}, {"getall A s I", 1, "confused 1"}, {"getall A q LA;", 1, "confused 1"}, {"static A t ()I", 1, "confused 3"},
	} {
		ahead := ""
		if strings.HasPrefix(c.ops, "load") {
			ahead = "push 1\nstore 0\n"
		} else if strings.HasPrefix(c.ops, "refload") {
			ahead = "null\nrefstore 1\n"
		}
		if ahead != "" {
			// What is stored needs a place of its own: so it is loaded twice.
			fine := mainOf(1, 2, ahead+c.ops+"\npop\ngive")
			wantBoth(t, c.ops, startOf(opWorld(t, fine)...), "fine 5")
			wantRefused(t, c.ops, startOf(opWorld(t, mainOf(1, 2, ahead+c.ops+"\n"+c.ops+"\npop\npop\ngive"))...), c.want)
			continue
		}
		left := strings.Repeat("pop\n", c.deep)
		s := startOf(opWorld(t, mainOf(c.deep, 2, lines(c.ops)+"\n"+left+"give"))...)
		s.Prove = true
		if a := impl.RunAll(s); a.End != impl.EndFine {
			t.Error(c.ops, tellAnswer(a))
		}
		wantRefused(t, c.ops, startOf(opWorld(t, mainOf(c.deep-1, 2, lines(c.ops)+"\n"+left+"give"))...), c.want)
	}
	// What a method gives is put where its call was.
	wantBoth(t, "as many as may be", startOf(opWorld(t, mainOf(8, 0, strings.Repeat("push 1\n", 7)+"static A t ()I\nprint\nprint\ngive"))...), "fine 13: 6 1")
	wantRefused(t, "one more", startOf(opWorld(t, mainOf(8, 0, strings.Repeat("push 1\n", 8)+"static A t ()I\nprint\nprint\ngive"))...), "confused 11")
	wantRefused(t, "nothing is there", startOf(opWorld(t, mainOf(0, 0, "static A t ()I\ngive"))...), "confused 3")
	wantBoth(t, "nothing is put", startOf(opWorld(t, mainOf(1, 0, "new A\nvirtual A v ()V\ngive"))...), "fine 4")
}

// An op that ends a method must be as it gives back.
func TestRunGives(t *testing.T) {
	back := map[string]string{"I": "giveint", "LA;": "giveref", "V": "give"}
	lay := map[string]string{"giveint": "push 5\n", "giveref": "null\n", "give": ""}
	for kind, fits := range back {
		for gives, ahead := range lay {
			src := mainOf(1, 0, "static M f ()"+kind+"\ngive") + "method f ()" + kind + " 1 1 0\n" + ahead + gives + "\n"
			s := startOf(opWorld(t, src)...)
			steps := 2 + strings.Count(ahead, "\n")
			if gives == fits {
				wantBoth(t, gives+" of "+kind, s, fmt.Sprint("fine ", steps+1))
				continue
			}
			wantRefused(t, gives+" of "+kind, s, fmt.Sprint("confused ", steps))
		}
	}
	// It must be there, and of its tag.
	for _, c := range []runCase{{"I / null / giveint", "confused 3"}, {"I / giveint", "confused 2"}, {"LA; / push 1 / giveref", "confused 3"}, {"LA; / giveref", "confused 2"}} {
		kind, ops, _ := strings.Cut(c.ops, " / ")
		src := mainOf(1, 0, "static M f ()"+kind+"\ngive") + "method f ()" + kind + " 1 1 0\n" + lines(ops) + "\n"
		wantRefused(t, c.ops, startOf(opWorld(t, src)...), c.want)
	}
	// Main itself, and a beginning, give nothing.
	wantRefused(t, "main", opStart(t, "push 1 / giveint"), "confused 2")
	wantRefused(t, "main", opStart(t, "null / giveref"), "confused 2")
	wantRefused(t, "begin", startOf(opWorld(t, mainOf(0, 0, "give")+"method begin ()V 1 1 0\npush 1\ngiveint\n")...), "confused 2")
}
