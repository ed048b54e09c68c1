package tests

import (
	"fmt"
	"maps"
	"slices"
	"strings"
	"testing"

	"loop.example/stowage/impl"
)

// teller tells a proof of M a second time, by texts: a kind is `-`, `I`, `N` or `LNAME;`.
type teller struct {
	class   impl.Class
	method  impl.Method
	locals  []string
	stack   []string
	brought []string
	wrong   string
	// ahead is what is known ahead of each op, as far as it came, each as `AT LOCALS STACK`.
	ahead []string
	// leads is called, if there is one, where a place is led to, instead of a look at its frame.
	leads func(at int, locals []string, stack []string)
}

func (p *teller) fail(why string) {
	if p.wrong == "" {
		p.wrong = why
	}
}

func (p *teller) fit(want string, got string) {
	if p.wrong != "" {
		return
	}
	r := fitsIn(want, got)
	if r == "no" || isMissing(r) {
		p.fail(r)
		return
	}
	for _, name := range strings.Fields(r) {
		if name != "." && !slices.Contains(p.brought, name) {
			p.brought = append(p.brought, name)
		}
	}
}

func (p *teller) fitAll(want []string, got []string) {
	if len(want) != len(got) {
		p.fail("no")
		return
	}
	for i := range want {
		p.fit(want[i], got[i])
	}
}

func (p *teller) text(place int) string {
	return p.class.Pool[place-1].Text
}

func (p *teller) className(place int) string {
	return p.text(p.class.Pool[place-1].A)
}

func (p *teller) kinds(list []impl.Kind) []string {
	var out []string
	for _, k := range list {
		s := []string{"-", "I", "N", ""}[k.Tag]
		if k.Tag == impl.TagRef {
			s = "L" + p.className(k.Class) + ";"
		}
		out = append(out, s)
	}
	return out
}

// meets holds a state against the frame at a place.
func (p *teller) meets(at int, locals []string, stack []string) {
	if p.leads != nil {
		p.leads(at, locals, stack)
		return
	}
	for _, f := range p.method.Frames {
		if f.At == at {
			p.fitAll(p.kinds(f.Locals), locals)
			p.fitAll(p.kinds(f.Stack), stack)
			return
		}
	}
	p.fail("no")
}

func (p *teller) take(want ...string) string {
	got := ""
	for _, w := range want {
		if len(p.stack) == 0 {
			p.fail("no")
			return "-"
		}
		got = p.stack[len(p.stack)-1]
		p.stack = p.stack[:len(p.stack)-1]
		p.fit(w, got)
	}
	return got
}

func (p *teller) put(list ...string) {
	for _, k := range list {
		if k != "V" {
			p.stack = append(p.stack, k)
		}
	}
	if len(p.stack) > p.method.Deep {
		p.fail("no")
	}
}

// ref takes no object, or one of any class.
func (p *teller) isRef(k string) {
	if k == "I" || k == "-" {
		p.fail("no")
	}
}

// do is one op; it says whether the next one is come to.
func (p *teller) do(in impl.Ins) bool {
	var class, desc string
	if in.Op >= impl.OpGet && in.Op <= impl.OpFace {
		e := p.class.Pool[in.Num-1]
		class, desc = "L"+p.className(e.A)+";", p.text(p.class.Pool[e.B-1].B)
	}
	takes, back, _ := impl.DescOf(desc)
	slices.Reverse(takes)
	_, own, _ := impl.DescOf(p.text(p.method.Desc))
	const obj = "LObj;"
	switch word := opWords[in.Op]; word {
	case "push":
		p.put("I")
	case "null":
		p.put("N")
	case "load":
		if p.locals[in.Num] != "I" {
			p.fail("no")
		}
		p.put("I")
	case "refload":
		p.isRef(p.locals[in.Num])
		p.put(p.locals[in.Num])
	case "store":
		p.locals[in.Num] = p.take("I")
	case "refstore":
		p.locals[in.Num] = p.take("-")
		p.isRef(p.locals[in.Num])
	case "pop":
		p.take("-")
	case "dup":
		k := p.take("-")
		p.put(k, k)
	case "swap":
		a, b := p.take("-"), p.take("-")
		p.put(a, b)
	case "add", "sub", "mul", "div":
		p.take("I", "I")
		p.put("I")
	case "ifzero", "ifneg":
		p.take("I")
		p.meets(in.Num, p.locals, p.stack)
	case "ifnull":
		p.take(obj)
		p.meets(in.Num, p.locals, p.stack)
	case "ifsame":
		p.take(obj, obj)
		p.meets(in.Num, p.locals, p.stack)
	case "go":
		p.meets(in.Num, p.locals, p.stack)
		return false
	case "new":
		p.put("L" + p.className(in.Num) + ";")
	case "get":
		p.take(class)
		p.put(desc)
	case "put":
		p.take(desc, class)
	case "getall":
		p.put(desc)
	case "putall":
		p.take(desc)
	case "virtual":
		p.take(append(takes, class)...)
		p.put(back)
	case "special":
		p.take(append(takes, "LM;")...)
		switch name := strings.Trim(class, "L;"); {
		case isMissing(name):
			p.fail(name)
		case !slices.Contains([]string{"M", "A", "Obj"}, name):
			p.fail("no")
		}
		p.put(back)
	case "static":
		p.take(takes...)
		p.put(back)
	case "face":
		p.take(append(takes, obj)...)
		p.put(back)
	case "cast":
		p.take(obj)
		p.put("L" + p.className(in.Num) + ";")
	case "is":
		p.take(obj)
		p.put("I")
	case "giveint", "giveref", "give":
		kind := map[string]bool{"giveint": own == "I", "giveref": own[0] == 'L', "give": own == "V"}
		if !kind[word] {
			p.fail("no")
		}
		if word != "give" {
			p.take(own)
		}
		return false
	case "throw":
		p.take(obj)
		return false
	case "print":
		p.take("I")
	}
	return true
}

// tell is what wantProof wants of a method.
func (p *teller) tell() {
	takes, _, _ := impl.DescOf(p.text(p.method.Desc))
	p.locals, p.stack, p.ahead = nil, nil, nil
	if p.method.Flags&impl.MemStatic == 0 {
		p.locals = []string{"LM;"}
	}
	p.locals = append(p.locals, takes...)
	for len(p.locals) < p.method.Locals {
		p.locals = append(p.locals, "-")
	}
	ops, _ := impl.OpsGet(p.method.Code)
	come := true
	for _, in := range ops {
		at := slices.IndexFunc(p.method.Frames, func(f impl.Frame) bool { return f.At == in.At })
		if at >= 0 {
			if come {
				p.meets(in.At, p.locals, p.stack)
			}
			p.locals, p.stack, come = p.kinds(p.method.Frames[at].Locals), p.kinds(p.method.Frames[at].Stack), true
		}
		if !come {
			p.fail("no")
		}
		p.ahead = append(p.ahead, fmt.Sprint(in.At, " ", listOf(p.locals), " ", listOf(p.stack)))
		for _, trap := range p.method.Traps {
			if trap.From <= in.At && in.At < trap.To {
				thrown := "LObj;"
				if trap.Class != 0 {
					thrown = "L" + p.className(trap.Class) + ";"
				}
				if p.method.Deep == 0 {
					p.fail("no")
				}
				p.meets(trap.At, p.locals, []string{thrown})
			}
		}
		if p.wrong == "" {
			come = p.do(in)
		}
		if p.wrong != "" {
			return
		}
	}
	if come {
		p.fail("no")
	}
}

// told is what wantProof wants of M.
func told(src string) string {
	p := &teller{class: classOf(src)}
	for _, m := range p.class.Methods {
		if p.method = m; p.wrong == "" && m.Flags&impl.MemAbstract == 0 {
			p.tell()
		}
	}
	if p.wrong != "" {
		return p.wrong
	}
	if len(p.brought) == 0 {
		return "."
	}
	return strings.Join(p.brought, " ")
}

// maker makes up a method whose ops mostly fit what is known, so that proofs come far.
type maker struct {
	*dice
	out    []string
	locals []string
	stack  []string
	back   string
	frames []string
	// deep is, for each place that has a frame, how many values stand there.
	deep map[string]int
}

func (m *maker) class() string {
	return m.pick([]string{"A", "A", "A", "B", "B", "M", "M", "C", "F", "G", "N", "Obj", "Err", "X"})
}

func (m *maker) kind() string {
	return m.pick([]string{"I", "L" + m.class() + ";", "L" + m.class() + ";"})
}

// last is what stands last, `.`, if nothing does.
func (m *maker) last(back int) string {
	if len(m.stack) < back {
		return "."
	}
	return m.stack[len(m.stack)-back]
}

func (m *maker) name(k string) string {
	if k[0] != 'L' || m.below(6) == 0 {
		return m.class()
	}
	return strings.Trim(k, "L;")
}

// goes are ops that go on at a place with a frame of that many values.
func (m *maker) goes(left int, words ...string) []string {
	var out []string
	for _, mark := range slices.Sorted(maps.Keys(m.deep)) {
		for _, word := range words {
			if m.deep[mark] == left {
				out = append(out, word+" "+mark)
			}
		}
	}
	return out
}

// next is an op that could stand here.
func (m *maker) next() string {
	a, b, many := m.last(1), m.last(2), len(m.stack)
	if m.below(40) == 0 {
		return m.pick([]string{"pop", "dup", "swap", "add", "print", "throw", "give", "giveint", "giveref", "store 0", "refstore 0", "go s", "ifzero s", "face X m ()V", "special X m ()V"})
	}
	place := m.below(len(m.locals))
	choices := []string{"push 1", "null", "new " + m.class(), "getall X f " + m.kind(), "static X m ()" + m.kind(), "nop"}
	switch k := m.locals[place]; {
	case k == "I":
		choices = append(choices, fmt.Sprint("load ", place), fmt.Sprint("load ", place))
	case k != "-":
		choices = append(choices, fmt.Sprint("refload ", place), fmt.Sprint("refload ", place))
	}
	if many > 2 {
		choices = []string{"pop", "nop"}
	}
	choices = append(choices, m.goes(many, "go")...)
	if a != "." {
		choices = append(choices, "pop")
	}
	if a == "I" {
		choices = append(choices, "dup", "print", fmt.Sprint("store ", place), "static X m (I)"+m.kind())
		choices = append(choices, m.goes(many-1, "ifzero", "ifneg")...)
		if b == "I" {
			choices = append(choices, "add", "sub", "mul", "div", "swap")
		} else if b != "." && b != "-" {
			choices = append(choices, "swap", "put "+m.name(b)+" f I", "virtual "+m.name(b)+" m (I)I")
		}
	}
	if a[0] == 'L' || a == "N" {
		choices = append(choices, fmt.Sprint("refstore ", place), "get "+m.name(a)+" f "+m.kind(), "virtual "+m.name(a)+" m ()"+m.kind(), "special A m ()I", "face X m ()"+m.kind(), "cast "+m.class(), "is "+m.class(), "throw", "static X m (L"+m.name(a)+";)V", "putall X f L"+m.name(a)+";")
		choices = append(choices, m.goes(many-1, "ifnull")...)
		if b[0] == 'L' {
			choices = append(choices, "put "+m.name(b)+" f L"+m.name(a)+";", "virtual "+m.name(b)+" m (L"+m.name(a)+";)V", "swap")
			choices = append(choices, m.goes(many-2, "ifsame")...)
		}
	}
	if m.below(3) == 0 && (m.back == "V" || a[0] == m.back[0]) {
		choices = append(choices, map[byte]string{'I': "giveint", 'V': "give", 'L': "giveref"}[m.back[0]])
	}
	return m.pick(choices)
}

// loose is a kind that a kind mostly fits.
func (m *maker) loose(k string) string {
	if m.below(60) == 0 {
		return m.pick(allKinds)
	}
	switch {
	case m.below(6) == 0:
		return "-"
	case k[0] == 'L' && m.below(6) == 0:
		return m.pick([]string{"LObj;", "LA;", "LF;"})
	}
	return k
}

func listOf(kinds []string) string {
	if len(kinds) == 0 {
		return "."
	}
	return strings.Join(kinds, ",")
}

// frame puts a frame here, and goes on with what it tells.
func (m *maker) frame(mark string) {
	for i := range m.locals {
		m.locals[i] = m.loose(m.locals[i])
	}
	for i := range m.stack {
		m.stack[i] = m.loose(m.stack[i])
	}
	m.out = append(m.out, mark+":")
	m.frames = append(m.frames, "frame "+mark+" "+listOf(m.locals)+" "+listOf(m.stack))
	m.deep[mark] = len(m.stack)
}

// randomProof is M with a method that may be proved, or not.
func randomProof(d *dice) string {
	m := &maker{dice: d, back: d.pick([]string{"V", "I", "LA;", "LObj;", "LX;"}), deep: map[string]int{}}
	var takes []string
	for range d.below(3) {
		takes = append(takes, m.kind())
	}
	flags, deep := d.below(2), 3+d.below(2)
	if flags == 0 {
		m.locals = []string{"LM;"}
	}
	m.locals = append(m.locals, takes...)
	for range 1 + d.below(2) {
		m.locals = append(m.locals, "-")
	}
	head := fmt.Sprint("class M A 0\nmethod m (", strings.Join(takes, ""), ")", m.back, " ", flags, " ", deep, " ", len(m.locals), "\n")
	m.frame("s")
	trap := ""
	come := true
	for i := range 1 + d.below(10) {
		if !come && d.below(30) > 0 || d.below(5) == 0 && i > 0 && len(m.frames) < 6 {
			m.frame(fmt.Sprint("f", i))
		}
		if trap == "" && d.below(6) == 0 {
			m.out = append(m.out, "t:")
			trap = "trap t e h " + d.pick([]string{"Err", "Err", "Err", "-", "A"}) + "\nframe h " + strings.TrimSuffix(strings.Repeat("-,", len(m.locals)), ",") + " " + d.pick([]string{"LErr;", "LObj;", "-"}) + "\n"
			if d.below(2) == 0 {
				trap = strings.Replace(trap, "frame h -", "frame h "+m.locals[0], 1)
			}
		}
		op := m.next()
		m.out = append(m.out, op)
		come = m.after(op)
	}
	if !come {
		m.frame("x")
	}
	if len(m.stack) > 2 {
		m.out = append(m.out, "pop")
	}
	m.out = append(m.out, "null", "throw", "e:")
	if trap != "" {
		m.out = append(m.out, "h:", "go h")
	}
	return head + strings.Join(m.out, "\n") + "\n" + strings.Join(m.frames, "\n") + "\n" + trap
}

// after goes on behind an op, as far as it can, without a look at frames; it says whether the next op is come to.
func (m *maker) after(op string) bool {
	word := strings.Fields(op)[0]
	if strings.HasPrefix(word, "if") || word == "go" {
		op = word + " 0"
	}
	c := classOf("class M A 0\nmethod m ()" + m.back + " 1 8 8\n" + op + "\n")
	ops, _ := impl.OpsGet(c.Methods[0].Code)
	p := &teller{class: c, method: c.Methods[0], locals: slices.Clone(m.locals), stack: slices.Clone(m.stack)}
	come := p.do(ops[0])
	m.locals, m.stack = p.locals, p.stack
	return come
}

// Methods that are made up are proved as they are told a second time.
func TestProofRandom(t *testing.T) {
	seen := map[string]int{}
	for seed := range 12000 {
		src := randomProof(newDice(seed))
		if impl.ClassCheck(classOf(src)) != impl.FormFine {
			seen["odd"]++
			continue
		}
		want := told(src)
		seen[want]++
		wantProof(t, fmt.Sprint("seed ", seed), src, want)
		if t.Failed() {
			return
		}
	}
	if seen["."] < 300 || seen["no"] < 300 || seen["X"] < 100 || seen["0:B"] < 20 || seen["0:F"] < 20 || seen["odd"] > 6000 {
		t.Error("too few of some", seen)
	}
}
