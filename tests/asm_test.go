package tests

import (
	"slices"
	"strconv"
	"strings"
	"testing"

	"loop.example/stowage/impl"
)

// opWords are the words of the ops, from OpNop on.
var opWords = strings.Fields("nop push null load store refload refstore pop dup swap add sub mul div ifzero ifneg ifnull ifsame go new get put getall putall virtual special static face cast is giveint giveref give throw print")

func opOf(word string) int {
	for op, w := range opWords {
		if w == word {
			return op
		}
	}
	panic("no op " + word)
}

// asm is a class that is told by lines: `class NAME SUPER FLAGS`, `face NAME`, `field NAME TYPE FLAGS`, `method NAME DESC FLAGS DEEP LOCALS`, ops, `trap FROM TO AT CLASS`, `frame AT LOCALS STACK`; a place is a number, or a word that stands with a `:` ahead of an op.
type asm struct {
	class  impl.Class
	marks  map[string]int
	later  []func()
	method *impl.Method
}

func classOf(src string) impl.Class {
	a := &asm{}
	for line := range strings.Lines(src) {
		if words := strings.Fields(line); len(words) > 0 {
			a.line(words)
		}
	}
	a.finish()
	return a.class
}

func (a *asm) line(w []string) {
	switch w[0] {
	case "class":
		a.class.Name, a.class.Super, a.class.Flags = a.of(w[1]), a.of(w[2]), number(w[3])
	case "face":
		if len(w) == 2 {
			a.class.Faces = append(a.class.Faces, a.of(w[1]))
			return
		}
		a.op(w)
	case "field":
		a.class.Fields = append(a.class.Fields, impl.Field{Name: a.text(w[1]), Type: a.text(w[2]), Flags: number(w[3])})
	case "method":
		a.finish()
		m := impl.Method{Name: a.text(w[1]), Desc: a.text(w[2]), Flags: number(w[3])}
		if len(w) > 4 {
			m.Deep, m.Locals = number(w[4]), number(w[5])
		}
		a.class.Methods = append(a.class.Methods, m)
		a.method = &a.class.Methods[len(a.class.Methods)-1]
		a.marks = map[string]int{}
	case "trap":
		m := a.method
		a.later = append(a.later, func() {
			t := impl.Trap{From: a.place(w[1]), To: a.place(w[2]), At: a.place(w[3])}
			if w[4] != "-" {
				t.Class = a.of(w[4])
			}
			m.Traps = append(m.Traps, t)
		})
	case "frame":
		m := a.method
		a.later = append(a.later, func() {
			m.Frames = append(m.Frames, impl.Frame{At: a.place(w[1]), Locals: a.kinds(w[2]), Stack: a.kinds(w[3])})
		})
	default:
		a.op(w)
	}
}

func (a *asm) op(w []string) {
	m := a.method
	if mark, ok := strings.CutSuffix(w[0], ":"); ok {
		a.marks[mark] = len(m.Code)
		return
	}
	op, num := opOf(w[0]), 0
	switch {
	case op >= impl.OpIfZero && op <= impl.OpGo:
		at := len(m.Code)
		a.later = append(a.later, func() {
			m.Code = m.Code[:at] + codeOf([2]int{op, a.place(w[1])}) + m.Code[at+3:]
		})
	case op == impl.OpNew || op == impl.OpCast || op == impl.OpIs:
		num = a.of(w[1])
	case op >= impl.OpGet && op <= impl.OpFace:
		num = a.member(op, w[1], w[2], w[3])
	case behind(op) > 0:
		num = number(w[1])
	}
	m.Code += codeOf([2]int{op, num})
}

// finish puts places in where they were not known yet, and frames in order.
func (a *asm) finish() {
	for _, do := range a.later {
		do()
	}
	a.later = nil
	if a.method != nil {
		slices.SortStableFunc(a.method.Frames, func(f impl.Frame, g impl.Frame) int { return f.At - g.At })
	}
}

func (a *asm) place(s string) int {
	if s == "end" {
		return len(a.method.Code)
	}
	if at, ok := a.marks[s]; ok {
		return at
	}
	return number(s)
}

func (a *asm) kinds(s string) []impl.Kind {
	if s == "." {
		return nil
	}
	var out []impl.Kind
	for _, k := range strings.Split(s, ",") {
		switch k {
		case "-":
			out = append(out, impl.Kind{})
		case "I":
			out = append(out, impl.Kind{Tag: impl.TagInt})
		case "N":
			out = append(out, impl.Kind{Tag: impl.TagNull})
		default:
			out = append(out, impl.Kind{Tag: impl.TagRef, Class: a.of(strings.TrimSuffix(k[1:], ";"))})
		}
	}
	return out
}

func (a *asm) entry(e impl.Const) int {
	for i, o := range a.class.Pool {
		if o == e {
			return i + 1
		}
	}
	a.class.Pool = append(a.class.Pool, e)
	return len(a.class.Pool)
}

func (a *asm) text(s string) int {
	return a.entry(impl.Const{Kind: impl.ConstName, Text: s})
}

func (a *asm) of(name string) int {
	return a.entry(impl.Const{Kind: impl.ConstClass, A: a.text(name)})
}

func (a *asm) member(op int, class string, name string, desc string) int {
	kind := impl.ConstMethod
	if op <= impl.OpPutAll {
		kind = impl.ConstField
	} else if op == impl.OpFace {
		kind = impl.ConstFace
	}
	c, n, d := a.of(class), a.text(name), a.text(desc)
	return a.entry(impl.Const{Kind: kind, A: c, B: a.entry(impl.Const{Kind: impl.ConstPair, A: n, B: d})})
}

func number(s string) int {
	n, err := strconv.Atoi(s)
	if err != nil {
		panic(err)
	}
	return n
}

// textOf is the bytes of a class that is told by lines; it must be fine.
func textOf(t *testing.T, src string) string {
	t.Helper()
	c := classOf(src)
	if code := impl.ClassCheck(c); code != impl.FormFine {
		t.Fatalf("ClassCheck is %d of\n%s", code, src)
	}
	return impl.FilePut(c)
}

// fileOf is a file of a class that is told by lines, by that class's name.
func fileOf(t *testing.T, src string) impl.File {
	t.Helper()
	return impl.File{Name: strings.Fields(src)[1], Text: textOf(t, src)}
}

// loaderOf is a loader of classes that are told by lines, one behind the other.
func loaderOf(t *testing.T, parent int, src string, ways ...impl.Way) impl.Loader {
	t.Helper()
	l := impl.Loader{Parent: parent, Ways: ways}
	for _, part := range strings.Split("\n"+src, "\nclass ")[1:] {
		l.Files = append(l.Files, fileOf(t, "class "+part))
	}
	return l
}

func worldOf(t *testing.T, list ...impl.Loader) impl.World {
	t.Helper()
	w := impl.WorldNew(list)
	if !impl.WorldOk(w) {
		t.Fatal("the new world is not ok")
	}
	return w
}

// load brings what must be brought without a fault.
func load(t *testing.T, w impl.World, loader int, name string) (impl.World, int) {
	t.Helper()
	x, class, fault := impl.WorldLoad(w, loader, name)
	if fault != (impl.Fault{}) || !impl.WorldOk(x) {
		t.Fatalf("WorldLoad of %d %s: %v, ok %v", loader, name, fault, impl.WorldOk(x))
	}
	return x, class
}

func loadAll(t *testing.T, w impl.World, loader int, names ...string) impl.World {
	t.Helper()
	for _, name := range names {
		w, _ = load(t, w, loader, name)
	}
	return w
}

func wantLoadFault(t *testing.T, w impl.World, loader int, name string, code int, told string) {
	t.Helper()
	x, class, fault := impl.WorldLoad(w, loader, name)
	if fault != (impl.Fault{Code: code, Name: told}) || class != -1 || !same(x, w) {
		t.Errorf("WorldLoad of %d %s: %v and %d, wanted %d %s; as it was %v", loader, name, fault, class, code, told, same(x, w))
	}
}

func bound(t *testing.T, w impl.World, a int, b int, name string) impl.World {
	t.Helper()
	x, fault := impl.WorldBind(w, a, b, name)
	if fault != (impl.Fault{}) || !impl.WorldOk(x) {
		t.Fatalf("WorldBind of %d %d %s: %v, ok %v", a, b, name, fault, impl.WorldOk(x))
	}
	return x
}

func wantBindFault(t *testing.T, w impl.World, a int, b int, name string, code int) {
	t.Helper()
	x, fault := impl.WorldBind(w, a, b, name)
	if fault != (impl.Fault{Code: code, Name: name}) || !same(x, w) {
		t.Errorf("WorldBind of %d %d %s: %v, wanted %d; as it was %v", a, b, name, fault, code, same(x, w))
	}
}

func linked(t *testing.T, w impl.World, class int) impl.World {
	t.Helper()
	x, fault := impl.WorldLink(w, class)
	if fault != (impl.Fault{}) || !impl.WorldOk(x) {
		t.Fatalf("WorldLink of %d: %v, ok %v", class, fault, impl.WorldOk(x))
	}
	return x
}

// loadLinked brings a class, and links it.
func loadLinked(t *testing.T, w impl.World, loader int, name string) (impl.World, impl.Cls) {
	t.Helper()
	x, class := load(t, w, loader, name)
	x = linked(t, x, class)
	return x, x.Classes[class]
}

func wantLinkFault(t *testing.T, w impl.World, loader int, name string, code int, told string) {
	t.Helper()
	x, class := load(t, w, loader, name)
	y, fault := impl.WorldLink(x, class)
	if fault != (impl.Fault{Code: code, Name: told}) || !same(y, x) {
		t.Errorf("WorldLink of %d %s: %v, wanted %d %s; as it was %v", loader, name, fault, code, told, same(y, x))
	}
}

// names are the classes of a world behind the first two, each as LOADER:NAME.
func names(w impl.World) string {
	var out []string
	for _, c := range w.Classes[2:] {
		out = append(out, strconv.Itoa(c.Loader)+":"+c.Name)
	}
	return strings.Join(out, " ")
}

// known is what is known in a world, each as LOADER:NAME=CLASS.
func known(w impl.World) string {
	var out []string
	for _, k := range w.Known {
		out = append(out, strconv.Itoa(k.Loader)+":"+k.Name+"="+strconv.Itoa(k.Class))
	}
	return strings.Join(out, " ")
}

// bonds are the bonds of a world, each as NAME:LOADERS=CLASS.
func bonds(w impl.World) string {
	var out []string
	for _, b := range w.Bonds {
		s := b.Name + ":"
		for _, l := range b.Loaders {
			s += strconv.Itoa(l)
		}
		out = append(out, s+"="+strconv.Itoa(b.Class))
	}
	return strings.Join(out, " ")
}
