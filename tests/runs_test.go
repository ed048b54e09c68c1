package tests

import (
	"fmt"
	"slices"
	"strings"
	"testing"

	"loop.example/stowage/impl"
)

// runMaker makes up methods that mostly fit what the classes of randomStart have.
type runMaker struct {
	*maker
	// seldom is how seldom an op need not fit.
	seldom int
	// told is what each frame tells, locals first, then the stack.
	told map[string][][]string
}

// goes are ops that go on at a place whose frame is fitted, when so many values are left.
func (m runMaker) goes(left int, words ...string) []string {
	return slices.DeleteFunc(m.maker.goes(left, words...), func(op string) bool {
		lists := m.told[strings.Fields(op)[1]]
		if lists == nil || m.below(m.seldom) == 0 {
			return false
		}
		for i, got := range [][]string{m.locals, m.stack[:left]} {
			for at, want := range lists[i] {
				isRef := got[at][0] == 'L' || got[at] == "N"
				if want != "-" && want != got[at] && (!isRef || want != "LObj;" && want != "LF;") {
					return true
				}
			}
		}
		return false
	})
}

// fieldsOf and methodsOf are what each class of randomStart may have, as it stands in lines.
var fieldsOf = map[string][]string{
	"A": {"n I 0", "r LB; 0", "c I 1", "a LA; 1"},
	"B": {"o LObj; 0", "b LB; 1", "p I 2"},
	"C": {"k LF; 0"},
	"F": {"z I 1", "y LA; 1"},
}

var methodsOf = map[string][]string{
	"A": {"f ()I 0", "g (LA;)LB; 0", "s ()LA; 1", "w (I)V 1"},
	"B": {"f ()I 0", "g (LA;)LB; 0", "t (LB;)I 1"},
	"C": {"f ()I 0", "g (LA;)LB; 0", "u (LObj;)V 1"},
	"F": {"f ()I 8", "g (LA;)LB; 8"},
	"M": {"v (ILA;)V 1"},
}

// class is some class, Obj and Err seldom.
func (m runMaker) class() string {
	return m.pick([]string{"A", "A", "A", "B", "B", "B", "C", "C", "M", "Obj", "Err"})
}

// onRef are ops for an object of a class that stands last.
func (m runMaker) onRef(class string) []string {
	out := []string{"pop", "cast " + m.class(), "is " + m.pick([]string{"A", "B", "C", "F"}), fmt.Sprint("refstore ", m.below(len(m.locals))), "face F f ()I", "static C u (LObj;)V"}
	switch class {
	case "A":
		out = append(out, "get A n I", "get A n I", "get A r LB;", "virtual A f ()I", "virtual A f ()I", "putall A a LA;")
	case "B":
		out = append(out, "get B o LObj;", "get A n I", "get B r LB;", "virtual B f ()I", "virtual A f ()I", "putall B b LB;", "static B t (LB;)I")
	case "C":
		out = append(out, "get C k LF;", "virtual C f ()I", "face F f ()I", "face F f ()I")
	}
	return out
}

// onTwo are ops for two objects, or an object and a number, that stand last.
func (m runMaker) onTwo(first string, last string) []string {
	switch first + " " + last {
	case "LA; I", "LB; I":
		return []string{"put A n I", "put A n I"}
	case "LA; LB;", "LB; LB;":
		return []string{"put A r LB;", "virtual A g (LA;)LB;", "special A g (LA;)LB;"}
	case "LA; LA;", "LB; LA;":
		return []string{"virtual A g (LA;)LB;", "virtual B g (LA;)LB;", "face F g (LA;)LB;"}
	case "LC; LA;", "LC; LB;":
		return []string{"virtual C g (LA;)LB;", "face F g (LA;)LB;", "put C k LF;"}
	case "I LA;", "I LB;":
		return []string{"static M v (ILA;)V", "swap"}
	}
	if first[0] == 'L' && last[0] == 'L' {
		return m.goes(len(m.stack)-2, "ifsame")
	}
	return []string{"swap"}
}

// wild is an op that need not fit.
func (m runMaker) wild() string {
	return m.pick([]string{"pop", "dup", "swap", "add", "print", "throw", "store 0", "refstore 0", "load 0", "refload 0", "new F", "new Q", "get B p I", "getall A n I", "virtual C zz ()I", "static A f ()I", "special B f ()I", "face C f ()I", "give", "giveint", "giveref", "push 0", "null", "div"})
}

func (m runMaker) next() string {
	a, b, many := m.last(1), m.last(2), len(m.stack)
	if m.below(m.seldom) == 0 {
		return m.wild()
	}
	place := m.below(len(m.locals))
	choices := []string{fmt.Sprint("push ", m.below(9)-2), "null", "new " + m.class(), "new " + m.class(), "getall A c I", "getall A a LA;", "getall B b LB;", "getall F z I", "static A s ()LA;", "static A s ()LA;"}
	switch k := m.locals[place]; {
	case k == "I":
		choices = append(choices, fmt.Sprint("load ", place), fmt.Sprint("load ", place))
	case k != "-":
		choices = append(choices, fmt.Sprint("refload ", place), fmt.Sprint("refload ", place), fmt.Sprint("refload ", place))
	}
	if many > 2 {
		choices = []string{"pop"}
	}
	if m.below(8) == 0 {
		choices = append(choices, m.goes(many, "go")...)
	}
	switch {
	case a == "I":
		choices = append(choices, "print", "print", "dup", fmt.Sprint("store ", place), "putall A c I", "static A w (I)V")
		choices = append(choices, m.goes(many-1, "ifzero", "ifneg")...)
		if b == "I" {
			choices = append(choices, "add", "sub", "mul", "div")
		}
	case a[0] == 'L':
		choices = append(choices, m.onRef(strings.Trim(a, "L;"))...)
		choices = append(choices, m.goes(many-1, "ifnull")...)
		if m.below(12) == 0 {
			choices = []string{"throw"}
		}
	case a == "N":
		choices = append(choices, "pop", fmt.Sprint("refstore ", place), "putall A a LA;", "is A")
	}
	if many > 1 && b != "." && b != "-" && a != "-" {
		choices = append(choices, m.onTwo(b, a)...)
		choices = append(choices, m.onTwo(b, a)...)
	}
	return m.pick(choices)
}

// frame puts a frame here that mostly tells what is known.
func (m runMaker) frame(mark string) {
	for _, list := range [][]string{m.locals, m.stack} {
		for i, k := range list {
			switch {
			case m.below(m.seldom) == 0:
				list[i] = m.pick(allKinds)
			case m.below(10) == 0:
				list[i] = "-"
			case k[0] == 'L' && m.below(10) == 0:
				list[i] = m.pick([]string{"LObj;", "LF;"})
			}
		}
	}
	m.out = append(m.out, mark+":")
	m.frames = append(m.frames, "frame "+mark+" "+listOf(m.locals)+" "+listOf(m.stack))
	m.deep[mark] = len(m.stack)
	m.told[mark] = [][]string{slices.Clone(m.locals), slices.Clone(m.stack)}
}

// method is a method of a class, with ops that lead to its end, loops and a trap.
func (m runMaker) method(own string, name string, desc string, flags int, many int) string {
	takes, back, _ := impl.DescOf(desc)
	*m.maker = maker{dice: m.dice, back: back, deep: map[string]int{"x": 0}}
	clear(m.told)
	if flags == 0 {
		m.locals = []string{"L" + own + ";"}
	}
	m.locals = append(m.locals, takes...)
	for range 1 + m.below(2) {
		m.locals = append(m.locals, "-")
	}
	none := strings.TrimSuffix(strings.Repeat("-,", len(m.locals)), ",")
	head := fmt.Sprint("method ", name, " ", desc, " ", flags, " 4 ", len(m.locals), "\n")
	trap := ""
	come := true
	for i := range many {
		if !come || m.below(9) == 0 && len(m.frames) < 4 {
			m.frame(fmt.Sprint("f", i))
		}
		if trap == "" && m.below(4) == 0 {
			m.out = append(m.out, "t:")
			trap = fmt.Sprint("trap t e h ", m.pick([]string{"-", "Err", "Err", "A"}), "\nframe h ", none, " LObj;\n")
		}
		op := m.next()
		m.out = append(m.out, op)
		come = m.after(op)
	}
	if come {
		for range m.stack {
			m.out = append(m.out, "pop")
		}
		m.out = append(m.out, "go x")
	}
	m.out = append(m.out, "e:")
	if trap != "" {
		m.out = append(m.out, "h:", "pop", "push 77", "print", "go x")
	}
	gives := map[byte]string{'I': "push 5\ngiveint", 'V': "give", 'L': m.pick([]string{"null", "new " + strings.Trim(back, "L;")}) + "\ngiveref"}
	m.out = append(m.out, "x:", gives[back[0]])
	return head + strings.Join(m.out, "\n") + "\n" + strings.Join(m.frames, "\n") + "\n" + trap + "frame x " + none + " .\n"
}

// source is a class of a name, with some of what it may have.
func (m runMaker) source(name string, many int) string {
	super := map[string][]string{"A": {"Obj"}, "B": {"A", "A", "A", "A", "A", "A", "A", "A", "A", "Obj"}, "C": {"Obj", "A", "Err"}, "F": {"Obj"}, "M": {"Obj", "A"}}[name]
	out := fmt.Sprint("class ", name, " ", m.pick(super), " ", map[string]int{"F": 5}[name], "\n")
	if name == "C" || name == "B" && m.below(3) == 0 {
		out += "face F\n"
	}
	for _, f := range fieldsOf[name] {
		if m.below(12) > 0 {
			out += "field " + f + "\n"
		}
	}
	for _, line := range methodsOf[name] {
		words := strings.Fields(line)
		switch {
		case m.below(10) == 0:
		case name == "F":
			out += "method " + line + "\n"
		default:
			out += m.method(name, words[0], words[1], number(words[2]), 1+m.below(many))
		}
	}
	if name == "M" {
		out += m.method(name, "main", "()V", 1, 2+m.below(3*many))
	}
	if m.below(3) == 0 {
		out += m.method(name, "begin", "()V", 1, 1+m.below(many))
	}
	return out
}

// file is a file of a class that is fine, of fewer ops, if it would be too great.
func (m runMaker) file(name string) impl.File {
	for many := 7; ; many-- {
		c := classOf(m.source(name, max(many, 1)))
		if impl.ClassCheck(c) == impl.FormFine {
			return impl.File{Name: name, Text: impl.FilePut(c)}
		}
	}
}

// randomStart is a start of classes that mostly can be run; loaders may mean their own by one name.
func randomStart(d *dice) impl.Start {
	m := runMaker{maker: &maker{dice: d}, seldom: []int{20, 100, 1000, 100000}[d.below(4)], told: map[string][][]string{}}
	many := 1 + d.below(impl.LoaderMax)
	s := impl.Start{Loader: many - 1, Name: "M", Fuel: impl.FuelMax, Room: impl.RoomMax, Prove: d.below(4) > 0}
	for i := range many {
		l := impl.Loader{Parent: i - 1}
		for _, name := range []string{"A", "B", "C", "F"} {
			if i == 0 && d.below(60) > 0 || i > 0 && d.below(5) == 0 {
				l.Files = append(l.Files, m.file(name))
			}
			if i > 0 && d.below(12) == 0 {
				l.Ways = append(l.Ways, impl.Way{Name: name, To: d.below(many)})
			}
		}
		if i == many-1 {
			l.Files = append(l.Files, m.file("M"))
		}
		s.Loaders = append(s.Loaders, l)
	}
	if d.below(3) == 0 {
		s.Fuel = d.below(60)
	}
	if d.below(3) == 0 {
		s.Room = d.below(6)
	}
	for range d.below(3) {
		s.Picks = append(s.Picks, impl.Pick{At: d.below(12), Kind: 1 + d.below(2), Loader: d.below(many), Name: d.pick([]string{"A", "B", "C", "F", "M"})})
	}
	return s
}

func beginsWith(list []int, first []int) bool {
	return len(list) >= len(first) && slices.Equal(list[:len(first)], first)
}

// Promises 22, 23, 25, and 27 to 32, of starts that are made up.
func TestRunsRandom(t *testing.T) {
	t.Parallel()
	ends := map[string]int{}
	for seed := range 6000 {
		s := randomStart(newDice(seed))
		if !impl.StartOk(s) {
			t.Fatal(seed, "not ok")
		}
		a := impl.RunAll(s)
		word := endWords[a.End]
		if a.End == impl.EndFault {
			word += fmt.Sprint(" ", a.Fault.Code)
		}
		ends[fmt.Sprint(word, " ", s.Prove)]++
		if why := brokenPromise(s, a); why != "" {
			t.Fatalf("seed %d: %s: %s", seed, why, tellAnswer(a))
		}
	}
	for _, word := range []string{"fine true", "fine false", "thrown true", "thrown false", "fuel true", "fuel false", "room true", "room false", "deep true", "deep false", "confused false", "fault 12 true", "fault 5 true", "fault 5 false", "fault 1 true", "fault 4 true", "fault 7 true", "fault 8 true", "fault 10 false"} {
		if ends[word] < 5 {
			t.Error("too few", word, ends)
		}
	}
}

// brokenPromise is what is not so of a start and its answer; the empty text, if all is.
func brokenPromise(s impl.Start, a impl.Answer) string {
	if a.End < impl.EndFine || a.End > impl.EndConfused || (a.End == impl.EndFault) != (a.Fault.Code != 0) || a.Steps > s.Fuel {
		return "22"
	}
	if s.Prove && a.End == impl.EndConfused {
		return "23"
	}
	if !same(impl.RunAll(s), a) {
		return "32, again"
	}
	r := impl.RunTo(s, impl.FuelMax+1)
	if !same(impl.Answer{End: r.End, Name: r.Name, Fault: r.Fault, Out: r.Out, Steps: r.Steps}, a) {
		return "32"
	}
	more := s
	more.Fuel = impl.FuelMax
	b := impl.RunAll(more)
	if a.End != impl.EndFuel && !same(a, b) || !beginsWith(b.Out, a.Out) {
		return "27"
	}
	more = s
	more.Room = impl.RoomMax
	b = impl.RunAll(more)
	if a.End != impl.EndRoom && !same(a, b) || !beginsWith(b.Out, a.Out) {
		return "28"
	}
	plain := s
	plain.Picks = nil
	b = impl.RunAll(plain)
	if s.Prove && a.End != impl.EndFault && b.End != impl.EndFault && !same(a, b) {
		return "29"
	}
	if s.Prove && !beginsWith(a.Out, b.Out) && !beginsWith(b.Out, a.Out) {
		return "29, Out"
	}
	return brokenProof(s, a)
}

func brokenProof(s impl.Start, a impl.Answer) string {
	trust := s
	trust.Prove = false
	if b := impl.RunAll(trust); s.Prove && a.End != impl.EndFault && !same(a, b) {
		return "30: " + tellAnswer(b)
	}
	if a.End != impl.EndFault || a.Fault.Code != impl.FaultProof {
		return ""
	}
	trust.Picks = nil
	if b := impl.RunAll(trust); a.Name != a.Fault.Name || b.End != impl.EndFault && !beginsWith(b.Out, a.Out) {
		return "31: " + tellAnswer(b)
	}
	return ""
}

// Promises 24, 26, 33 and 34, at each step of starts that are made up.
func TestRunsRandomSteps(t *testing.T) {
	t.Parallel()
	for seed := range 700 {
		s := randomStart(newDice(seed))
		checkSteps(t, fmt.Sprint("seed ", seed), s)
	}
}
