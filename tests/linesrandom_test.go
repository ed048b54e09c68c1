package tests

import (
	"fmt"
	"reflect"
	"slices"
	"strings"
	"testing"

	"loop.example/stowage/impl"
)

// lineMaker makes lines up, most of which are those of a class.
type lineMaker struct {
	*dice
	strings.Builder
}

var madeNames = []string{"A", "B", "Q", "I", "V", "N", "L", "Obj", "Err", "x", "main", "Abcdefg8"}

func (m *lineMaker) name() string {
	return m.pick(madeNames)
}

func (m *lineMaker) kind() string {
	return m.pick([]string{"I", "LObj;", "L" + m.name() + ";"})
}

func (m *lineMaker) desc() string {
	return "(" + strings.Join(list(m.dice, impl.ParamMax, m.kind), "") + ")" + m.pick([]string{"V", m.kind()})
}

func (m *lineMaker) frameKinds(many int) string {
	var out []string
	for range many {
		out = append(out, m.pick([]string{"-", "I", "N", "L" + m.name() + ";"}))
	}
	return strings.Join(append(out, ".")[:max(1, many)], ",")
}

func (m *lineMaker) line(words ...any) {
	fmt.Fprintln(m, words...)
}

// randomLines are lines of a class that is fine, unless dice will it otherwise.
func randomLines(d *dice) string {
	m := &lineMaker{dice: d}
	flags, super := []int{0, 0, 2, 4, 5}[d.below(5)], m.name()
	if flags == 5 {
		super = "Obj"
	}
	m.line("class", m.name(), super, flags)
	for range d.below(3) {
		m.line("face", m.name())
	}
	for range d.below(3) {
		m.line("field", m.name(), m.kind(), []int{d.below(4), 1}[flags%2])
	}
	for range d.below(4) {
		if flags >= impl.FlagAbstract && d.below(2) == 0 {
			m.line("method", m.name(), m.desc(), impl.MemAbstract)
			continue
		}
		m.body([]int{d.below(8), 1}[flags%2])
	}
	return m.String()
}

func (m *lineMaker) body(flags int) {
	deep, locals := m.below(9), 5+m.below(4)
	m.line("method", m.name(), m.desc(), flags, deep, locals)
	ops := make([]int, 1+m.below(12))
	var places []int
	at := 0
	for i := range ops {
		ops[i] = m.below(impl.OpPrint + 1)
		places = append(places, at)
		at += 1 + behind(ops[i])
	}
	for _, op := range ops {
		m.op(op, locals, places)
	}
	place := func() int { return places[m.below(len(places))] }
	for range m.below(3) {
		from, to := place(), place()
		if from >= to {
			from, to = to, at
		}
		m.line("trap", from, to, place(), m.pick([]string{"-", m.name()}))
	}
	for _, frame := range places {
		if m.below(6) == 0 {
			m.line("frame", frame, m.frameKinds(locals), m.frameKinds(m.below(deep+1)))
		}
	}
}

func (m *lineMaker) op(op int, locals int, places []int) {
	word := "  " + opWords[op]
	switch {
	case behind(op) == 0:
		m.line(word)
	case op == impl.OpPush:
		m.line(word, m.below(65536)-32768)
	case op <= impl.OpRefStore:
		m.line(word, m.below(locals))
	case op <= impl.OpGo:
		m.line(word, places[m.below(len(places))])
	case op >= impl.OpGet && op <= impl.OpPutAll:
		m.line(word, m.name(), m.name(), m.kind())
	case op >= impl.OpVirtual && op <= impl.OpFace:
		m.line(word, m.name(), m.name(), m.desc())
	default:
		m.line(word, m.name())
	}
}

// wantReadOrNot holds AsmGet of lines that are made up against a second telling, and says whether they are a class.
func wantReadOrNot(t *testing.T, what string, text string) (impl.Class, bool) {
	t.Helper()
	c := classOf(text)
	fine := len(text) <= impl.AsmMax && formOf(c) == impl.FormFine && linesOf(c) == text
	if fine {
		wantLines(t, what, text)
	} else {
		wantNoLines(t, what, text)
	}
	return c, fine
}

func TestLinesRandom(t *testing.T) {
	read := 0
	for seed := range 6000 {
		d := newDice(seed)
		c, fine := wantReadOrNot(t, fmt.Sprint("seed ", seed), randomLines(d))
		if !fine {
			continue
		}
		read++
		// The same class with its pool in another order, or with entries twice.
		order := randomOrder(d, len(c.Pool))
		pool := make([]impl.Const, len(order))
		for from, to := range order {
			pool[to] = c.Pool[from]
		}
		turned := renumbered(c, pool, func(place int) int { return order[place-1] + 1 })
		wantTold(t, fmt.Sprint("seed ", seed, ", turned"), turned)
		if s := impl.AsmPut(turned); (s != "") != same(turned, c) {
			t.Fatal("seed", seed, "turned:", s)
		}
	}
	if read < 1000 {
		t.Error("too few are read:", read)
	}
	for seed := range 3000 {
		wantTold(t, fmt.Sprint("a class ", seed), randomClass(newDice(seed)))
	}
}

// randomOrder is where each of n goes, most of them staying where they are.
func randomOrder(d *dice, n int) []int {
	order := make([]int, n)
	for i := range order {
		order[i] = i
	}
	for range d.below(3) {
		i, k := d.below(n), d.below(n)
		order[i], order[k] = order[k], order[i]
	}
	return order
}

// Lines of which something was turned are read just if they are written so.
func TestLinesTurned(t *testing.T) {
	read := 0
	for seed := range 20000 {
		d := newDice(seed)
		text := fullLines
		if d.below(2) == 0 {
			text = randomLines(d)
		}
		for range 1 + d.below(2) {
			text = turnedText(d, text)
		}
		c, ok := impl.AsmGet(text)
		if !ok {
			if !same(c, impl.Class{}) {
				t.Fatalf("seed %d: %+v", seed, c)
			}
			continue
		}
		read++
		wantLines(t, fmt.Sprint("seed ", seed), text)
	}
	if read < 500 {
		t.Error("too few are read:", read)
	}
}

// turnedText is a text with a byte, a word or a line more, less, or another one.
func turnedText(d *dice, text string) string {
	switch d.below(3) {
	case 0:
		return turnedParts(d, text, "", []string{" ", "\n", "0", "1", "9", "-", ",", ";", "A", "L", "I", ".", "\x00"})
	case 1:
		return turnedParts(d, text, " ", []string{"0", "1", "3", "8", "I", "LQ;", "()V", "A", "-", "nop", "push", ""})
	}
	return turnedParts(d, text, "\n", []string{"face Z", "field zz I 0", "  nop", "  push 5", "trap 0 1 0 -", "method zz ()V 8", ""})
}

func turnedParts(d *dice, text string, between string, others []string) string {
	if text == "" {
		return d.pick(others)
	}
	parts := strings.Split(text, between)
	at, to := d.below(len(parts)), d.below(len(parts))
	switch d.below(4) {
	case 0:
		parts = slices.Delete(parts, at, at+1)
	case 1:
		parts = slices.Insert(parts, at, d.pick(others))
	case 2:
		parts[at], parts[to] = parts[to], parts[at]
	case 3:
		parts[at] = d.pick(others)
	}
	return strings.Join(parts, between)
}

// AsmGet and AsmPut answer at everything, in new memory, and write into no argument.
func TestLinesCalm(t *testing.T) {
	get := func(what string, text string) {
		t.Helper()
		var c, again impl.Class
		var ok bool
		calm(t, "AsmGet of "+what, func() { c, ok = impl.AsmGet(text) })
		calm(t, "AsmGet of "+what, func() { again, _ = impl.AsmGet(text) })
		if !same(c, again) || !ok && !same(c, impl.Class{}) {
			t.Fatalf("%s: %v %+v, then %+v", what, ok, c, again)
		}
		wantNew(t, "AsmGet", c, text)
		wantNew(t, "AsmGet again", again, c)
	}
	put := func(what string, c impl.Class) {
		t.Helper()
		c = copied(c)
		before := frozen(c)
		var s string
		calm(t, "AsmPut of "+what, func() { s = impl.AsmPut(c) })
		if frozen(c) != before {
			t.Fatalf("%s: AsmPut writes into its argument", what)
		}
		wantNew(t, "AsmPut", s, c)
		wantTold(t, what, c)
	}
	for seed := range 2000 {
		d := newDice(seed)
		get("any bytes", d.text(d.below(3000)))
		get("lines with any bytes", "class A Obj 0\n"+d.text(d.below(40)))
		text := randomLines(d)
		get("lines", text)
		put("any class", oddClass(seed))
		c := classOf(text)
		put("a class", c)
		spoil(d, reflect.ValueOf(&c).Elem(), 1+d.below(200))
		put("a class that is spoilt", c)
	}
	for _, part := range []string{"class ", "class A Obj 0\n", "\n", " ", "  ", "  nop\n", "frame 0 ", ",", "trap ", "9", "-", "(", "L", "\x00", "\xff"} {
		for _, n := range []int{1, 2, 100, 1 << 18} {
			long := strings.Repeat(part, n)
			for _, text := range []string{long, "class A Obj 0\n" + long, "class A Obj 0\nmethod f ()V 1 0 0\n" + long, "class A Obj 0\nmethod f ()V 1 0 0\n  nop\n" + long, "class " + long + " Obj 0\n", "class A Obj " + long + "\n", opLines("push " + long), opLines("new " + long), opLines("nop") + "frame 0 " + long + " .\n"} {
				get("long lines", text)
			}
		}
	}
	for _, n := range []int{61, 1000} {
		c := fullOfLines()
		c.Pool = many(n, c.Pool[0])
		put("a long pool", c)
		c = fullOfLines()
		c.Faces, c.Fields, c.Methods = many(n, c.Faces[0]), many(n, c.Fields[0]), many(n, c.Methods[0])
		put("many of all", c)
	}
}

// What is written into an answer is seen by no later call.
func TestLinesKeepNothing(t *testing.T) {
	first, _ := impl.AsmGet(fullLines)
	first.Pool[0].Text, first.Faces[0], first.Fields[0].Name = "Z", 9, 9
	first.Methods[0].Traps[0].At, first.Methods[0].Frames[0].Locals[0].Tag, first.Methods[0].Frames[1].Stack[0].Tag = 9, 9, 9
	if second, ok := impl.AsmGet(fullLines); !ok || !same(second, fullOfLines()) {
		t.Error("AsmGet kept something")
	}
	for range 3 {
		for _, c := range notFine {
			wantNoLines(t, "not fine", c.text)
		}
		wantLines(t, "behind others", fullLines)
	}
}
