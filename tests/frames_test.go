package tests

import (
	"fmt"
	"slices"
	"strings"
	"testing"

	"loop.example/stowage/impl"
)

// seeker finds frames a second time: it goes through all ops whose places are known, from the first on, until nothing changes any more.
type seeker struct {
	teller
	ops   []impl.Ins
	known map[int][2][]string
	again bool
}

// bothIn is what two kinds both are, in the loaders of proofWorld; the empty text, if one cannot be brought.
func bothIn(a string, b string) string {
	switch {
	case a == b:
		return a
	case a == "I" || b == "I" || a == "-" || b == "-":
		return "-"
	case a == "N":
		return b
	case b == "N":
		return a
	}
	one, other := strings.Trim(a, "L;"), strings.Trim(b, "L;")
	if isMissing(one) || isMissing(other) {
		return ""
	}
	above := map[string]string{"A": "A Obj", "B": "B A Obj", "M": "M A Obj", "N": "N M A Obj", "C": "C Obj", "Err": "Err Obj", "Obj": "Obj", "F": "Obj", "G": "Obj"}
	for _, name := range strings.Fields(above[one]) {
		if slices.Contains(strings.Fields(above[other]), name) {
			return "L" + name + ";"
		}
	}
	return "LObj;"
}

func (s *seeker) lead(at int, locals []string, stack []string) {
	if s.wrong != "" {
		return
	}
	if !slices.ContainsFunc(s.ops, func(in impl.Ins) bool { return in.At == at }) {
		s.fail("no")
		return
	}
	before, led := s.known[at]
	now := [2][]string{slices.Clone(locals), slices.Clone(stack)}
	if led && len(before[1]) != len(stack) {
		s.fail("two numbers")
		return
	}
	for k, list := range before {
		for i, kind := range list {
			if now[k][i] = bothIn(kind, now[k][i]); now[k][i] == "" {
				s.fail("not brought")
				return
			}
		}
	}
	s.again = s.again || !led || !same(before, now)
	s.known[at] = now
}

func (s *seeker) traps(in impl.Ins) {
	for _, trap := range s.method.Traps {
		if trap.From <= in.At && in.At < trap.To {
			thrown := "LObj;"
			if trap.Class != 0 {
				thrown = "L" + s.className(trap.Class) + ";"
			}
			if s.method.Deep == 0 {
				s.fail("no")
			}
			s.lead(trap.At, s.locals, []string{thrown})
		}
	}
}

// seek is the frames that a method needs, each as `frame AT LOCALS STACK`, and whether there are such.
func (s *seeker) seek() ([]string, bool) {
	s.leads, s.known = s.lead, map[int][2][]string{}
	s.lead(0, s.locals, nil)
	for s.again && s.wrong == "" {
		s.again = false
		for _, in := range s.ops {
			now, led := s.known[in.At]
			if !led || s.wrong != "" {
				continue
			}
			s.locals, s.stack = slices.Clone(now[0]), slices.Clone(now[1])
			s.traps(in)
			if s.wrong == "" && s.do(in) {
				s.lead(in.At+1+behind(in.Op), s.locals, s.stack)
			}
		}
	}
	var out []string
	for _, in := range s.ops {
		now, led := s.known[in.At]
		if !led {
			return nil, false
		}
		isLed := slices.ContainsFunc(s.ops, func(o impl.Ins) bool { return o.Op >= impl.OpIfZero && o.Op <= impl.OpGo && o.Num == in.At })
		if isLed || slices.ContainsFunc(s.method.Traps, func(trap impl.Trap) bool { return trap.At == in.At }) {
			out = append(out, fmt.Sprint("frame ", in.At, " ", listOf(now[0]), " ", listOf(now[1])))
		}
	}
	return out, s.wrong == ""
}

// firstLocals is what is known of a method's places ahead of its first op.
func firstLocals(c impl.Class, m impl.Method) []string {
	takes, _, _ := impl.DescOf(c.Pool[m.Desc-1].Text)
	var out []string
	if m.Flags&impl.MemStatic == 0 {
		out = []string{"LM;"}
	}
	out = append(out, takes...)
	for len(out) < m.Locals {
		out = append(out, "-")
	}
	return out
}

// framedIn is a class of proofWorld with the frames that are found a second time.
func framedIn(c impl.Class) (impl.Class, bool) {
	out := copied(c)
	for at, m := range c.Methods {
		if m.Flags&impl.MemAbstract != 0 {
			continue
		}
		s := &seeker{teller: teller{class: c, method: m, locals: firstLocals(c, m)}}
		s.ops, _ = impl.OpsGet(m.Code)
		frames, ok := s.seek()
		if !ok {
			return impl.Class{}, false
		}
		out.Methods[at].Frames = nil
		for _, line := range frames {
			words := strings.Fields(line)
			out.Methods[at].Frames = append(out.Methods[at].Frames, impl.Frame{At: number(words[1]), Locals: kindsIn(&out, words[2]), Stack: kindsIn(&out, words[3])})
		}
	}
	if impl.ClassCheck(out) != impl.FormFine {
		return impl.Class{}, false
	}
	return out, true
}

// kindsIn are kinds as lines tell them, of the first entries that say the same; of those that are not there behind all.
func kindsIn(c *impl.Class, words string) []impl.Kind {
	if words == "." {
		return nil
	}
	var out []impl.Kind
	for _, w := range strings.Split(words, ",") {
		k := impl.Kind{Tag: strings.Index("-INL", w[:1])}
		if k.Tag == impl.TagRef {
			k.Class = classPlaceIn(c, strings.Trim(w[1:], ";"))
		}
		out = append(out, k)
	}
	return out
}

func classPlaceIn(c *impl.Class, name string) int {
	text := 0
	for i := range c.Pool {
		if saidIn(c.Pool, i+1) == "class "+name {
			return i + 1
		}
		if text == 0 && c.Pool[i].Kind == impl.ConstName && c.Pool[i].Text == name {
			text = i + 1
		}
	}
	if text == 0 {
		c.Pool = append(c.Pool, impl.Const{Kind: impl.ConstName, Text: name})
		text = len(c.Pool)
	}
	c.Pool = append(c.Pool, impl.Const{Kind: impl.ConstClass, A: text})
	return len(c.Pool)
}

// loadersBy are the loaders of proofWorld with M as it is.
func loadersBy(t *testing.T, c impl.Class) []impl.Loader {
	t.Helper()
	list := proofWorld(t, "class M A 0\n").Loaders
	list[0].Files[0].Text = impl.FilePut(c)
	if list[0].Files[0].Name != "M" || impl.ClassCheck(c) != impl.FormFine {
		t.Fatal("M is not fine")
	}
	return list
}

// checkFound holds frames that were found for a class of loaders against the promises 79 to 81.
func checkFound(t *testing.T, what string, list []impl.Loader, loader int, name string, c impl.Class, got impl.Class) {
	t.Helper()
	less := impl.FrameLess(c)
	checkLess(t, what, c, less)
	checkLess(t, what+", found", got, impl.FrameLess(got))
	if !same(impl.PackOf(impl.FrameLess(got)), impl.PackOf(less)) || len(got.Pool) < len(c.Pool) || !same(got.Pool[:len(c.Pool)], c.Pool) {
		t.Fatal(what, "other parts are not as they were", poolWords(got.Pool))
	}
	maker := impl.PathMaker(list, loader, name)
	list = ownStart(impl.Start{Loaders: list}).Loaders
	for i, f := range list[maker].Files {
		if f.Name == name {
			list[maker].Files[i].Text = impl.FilePut(got)
		}
	}
	w, class, fault := impl.WorldLoad(impl.WorldNew(list), loader, name)
	if fault.Code != impl.FaultFine {
		t.Fatal(what, fault)
	}
	w, fault = impl.WorldLink(w, w.Classes[class].Super)
	if fault.Code != impl.FaultFine {
		return
	}
	if _, fault = impl.WorldLink(w, class); fault.Code != impl.FaultFine {
		t.Fatalf("%s: %v of\n%s", what, fault, linesOf(got))
	}
	// What is found for what has the frames already is the same.
	if again, ok := impl.FrameFind(list, loader, name); !ok || !same(again, got) {
		t.Fatal(what, "again", linesOf(again))
	}
}

// checkLess is promises 79 and 80.
func checkLess(t *testing.T, what string, c impl.Class, less impl.Class) {
	t.Helper()
	want, many, least := copied(c), 0, 0
	for at := range want.Methods {
		m := &want.Methods[at]
		for _, f := range m.Frames {
			many += len(f.Locals) + len(f.Stack)
		}
		if len(m.Frames) > 0 {
			least += m.Locals
		}
		m.Frames = nil
	}
	if !same(less, want) || impl.ClassCheck(less) != impl.FormFine || impl.FrameMany(less) != 0 || !same(impl.FrameLess(less), less) {
		t.Fatal(what, linesOf(less))
	}
	if got := impl.FrameMany(c); got != many || got < least || impl.FrameMany(impl.PackOf(c)) != got {
		t.Fatal(what, got, many, least)
	}
}

// wantFound wants of M that its frames are found as its lines tell them, whatever frames it had, and its pool with them.
func wantFound(t *testing.T, what string, src string) {
	t.Helper()
	want := classOf(src)
	c := impl.PackOf(impl.FrameLess(want))
	got, ok := impl.FrameFind(loadersBy(t, c), 0, "M")
	if !ok || linesOf(got) != linesOf(want) {
		t.Errorf("%s: %v\n%swanted\n%s", what, ok, linesOf(got), linesOf(want))
		return
	}
	if told, ok := framedIn(c); !ok || !same(told, got) {
		t.Errorf("%s: %s, wanted %s", what, poolWords(got.Pool), poolWords(told.Pool))
	}
	checkFound(t, what, loadersBy(t, c), 0, "M", c, got)
	// The frames that M has do not matter.
	got, ok = impl.FrameFind(loadersBy(t, want), 0, "M")
	if !ok || linesOf(got) != linesOf(want) {
		t.Errorf("%s, with its frames: %v\n%s", what, ok, linesOf(got))
	}
}

// wantLost wants of M that no frames are found, whatever frames it had.
func wantLost(t *testing.T, what string, src string) {
	t.Helper()
	c := classOf(src)
	for _, x := range []impl.Class{c, impl.FrameLess(c), impl.PackOf(impl.FrameLess(c))} {
		if got, ok := impl.FrameFind(loadersBy(t, x), 0, "M"); ok || !same(got, impl.Class{}) {
			t.Errorf("%s: %v\n%s", what, ok, linesOf(got))
		}
	}
	if _, ok := framedIn(c); ok {
		t.Errorf("%s: the second telling finds some", what)
	}
}

// unframed is a method of M that is made up, without frames; ops may go on at other places than they did.
func unframed(d *dice) impl.Class {
	c := impl.FrameLess(classOf(randomProof(d)))
	turns := d.below(3)
	for at := range c.Methods {
		ops, _ := impl.OpsGet(c.Methods[at].Code)
		for i := range ops {
			if ops[i].Op >= impl.OpIfZero && ops[i].Op <= impl.OpGo && d.below(4) < turns {
				ops[i].Num = ops[d.below(len(ops))].At
			}
		}
		c.Methods[at].Code = impl.OpsPut(ops)
	}
	return c
}

// Promises 79 to 81, of methods that are made up, held against a second telling.
func TestPromiseFound(t *testing.T) {
	t.Parallel()
	seen := map[string]int{}
	for seed := range 9000 {
		c := unframed(newDice(seed))
		if impl.ClassCheck(c) != impl.FormFine {
			continue
		}
		what := fmt.Sprint("seed ", seed)
		list := loadersBy(t, c)
		got, ok := impl.FrameFind(list, 0, "M")
		want, told := framedIn(c)
		if ok != told || !same(got, want) {
			t.Fatalf("%s: %v\n%swanted %v\n%sof\n%s", what, ok, linesOrNone(got), told, linesOrNone(want), linesOf(c))
		}
		if !ok {
			seen["lost"]++
			continue
		}
		seen["found"]++
		if impl.FrameMany(got) > 0 {
			seen["frames"]++
		}
		checkFound(t, what, list, 0, "M", c, got)
	}
	if seen["found"] < 2000 || seen["frames"] < 1000 || seen["lost"] < 2000 {
		t.Error("too few of some", seen)
	}
}

// linesOrNone are the lines of a class, be it nothing.
func linesOrNone(c impl.Class) string {
	if len(c.Pool) == 0 {
		return "nothing\n"
	}
	return linesOf(c)
}
