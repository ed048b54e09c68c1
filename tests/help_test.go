package tests

import (
	"fmt"
	"reflect"
	"strconv"
	"strings"
	"testing"
	"unsafe"

	"loop.example/stowage/impl"
)

// dice throws the same numbers at every run, so that a failure comes again.
type dice struct {
	state uint64
}

func newDice(seed int) *dice {
	return &dice{state: uint64(seed)*2862933555777941757 + 3037000493}
}

func (d *dice) below(n int) int {
	d.state = d.state*6364136223846793005 + 1442695040888963407
	return int((d.state >> 33) % uint64(n))
}

func (d *dice) text(n int) string {
	b := make([]byte, n)
	for i := range b {
		b[i] = byte(d.below(256))
	}
	return string(b)
}

func (d *dice) pick(list []string) string {
	return list[d.below(len(list))]
}

// list has up to most, and the ends of that more often than dice would have them.
func list[T any](d *dice, most int, one func() T) []T {
	many := d.below(most + 1)
	if d.below(8) == 0 {
		many = most
	}
	var out []T
	for range many {
		out = append(out, one())
	}
	return out
}

// same holds two values against each other; the empty list and the nil list are the same value.
func same(a any, b any) bool {
	return dump(a, false) == dump(b, false)
}

// frozen is all that a value holds, spare room of its lists included.
func frozen(v any) string {
	return dump(v, true)
}

func dump(v any, spare bool) string {
	return string(dumpBehind(nil, reflect.ValueOf(v), spare))
}

func dumpBehind(b []byte, v reflect.Value, spare bool) []byte {
	switch v.Kind() {
	case reflect.Slice:
		if spare {
			v = v.Slice(0, v.Cap())
		}
		b = append(b, '[')
		for i := range v.Len() {
			b = append(dumpBehind(b, v.Index(i), spare), ',')
		}
		return append(b, ']')
	case reflect.Struct:
		b = append(b, '{')
		for i := range v.NumField() {
			b = append(dumpBehind(b, v.Field(i), spare), ',')
		}
		return append(b, '}')
	case reflect.String:
		return strconv.AppendQuote(b, v.String())
	case reflect.Int:
		return strconv.AppendInt(b, v.Int(), 10)
	}
	return fmt.Append(b, v.Interface())
}

// stretch is a piece of memory: where it begins, and how many bytes it has.
type stretch struct {
	from uintptr
	many uintptr
}

func (s stretch) meets(o stretch) bool {
	return s.from < o.from+o.many && o.from < s.from+s.many
}

// stretches are the pieces of memory of all lists in a value, spare room included, and those of its texts.
func stretches(v reflect.Value) (lists []stretch, texts []stretch) {
	switch v.Kind() {
	case reflect.Slice:
		if many := uintptr(v.Cap()) * v.Type().Elem().Size(); many > 0 {
			lists = append(lists, stretch{v.Pointer(), many})
		}
		for i := range v.Len() {
			l, t := stretches(v.Index(i))
			lists, texts = append(lists, l...), append(texts, t...)
		}
	case reflect.Struct:
		for i := range v.NumField() {
			l, t := stretches(v.Field(i))
			lists, texts = append(lists, l...), append(texts, t...)
		}
	case reflect.String:
		if s := v.String(); s != "" {
			texts = append(texts, stretch{uintptr(unsafe.Pointer(unsafe.StringData(s))), uintptr(len(s))})
		}
	}
	return lists, texts
}

// wantNew fails, if an answer shares memory with an argument, or two lists of it share some.
func wantNew(t *testing.T, what string, answer any, argument any) {
	t.Helper()
	lists, texts := stretches(reflect.ValueOf(answer))
	givenLists, givenTexts := stretches(reflect.ValueOf(argument))
	for i, l := range lists {
		for _, o := range append(givenLists, lists[:i]...) {
			if l.meets(o) {
				t.Fatalf("%s: a list of the answer shares its memory", what)
			}
		}
	}
	for _, x := range texts {
		for _, o := range givenTexts {
			if x.meets(o) {
				t.Fatalf("%s: a text of the answer shares its memory with the argument", what)
			}
		}
	}
}

// goodClass is a class that has bytes, as far as these are not too many.
func goodClass(d *dice) impl.Class {
	return impl.Class{
		Pool:    list(d, impl.PoolMax, func() impl.Const { return goodConst(d) }),
		Flags:   d.below(256),
		Name:    d.below(65536),
		Super:   d.below(65536),
		Faces:   list(d, impl.FaceMax, func() int { return d.below(65536) }),
		Fields:  list(d, impl.FieldMax, func() impl.Field { return goodField(d) }),
		Methods: list(d, impl.MethodMax, func() impl.Method { return goodMethod(d) }),
	}
}

func goodConst(d *dice) impl.Const {
	c := impl.Const{Kind: 1 + d.below(6)}
	switch c.Kind {
	case impl.ConstName:
		c.Text = d.text(d.below(12))
	case impl.ConstClass:
		c.A = d.below(65536)
	default:
		c.A, c.B = d.below(65536), d.below(65536)
	}
	return c
}

func goodField(d *dice) impl.Field {
	return impl.Field{Flags: d.below(256), Name: d.below(65536), Type: d.below(65536)}
}

func goodMethod(d *dice) impl.Method {
	m := impl.Method{Flags: d.below(16), Name: d.below(65536), Desc: d.below(65536)}
	if m.Flags >= impl.MemAbstract {
		return m
	}
	m.Deep, m.Locals = d.below(256), d.below(256)
	m.Code = d.text(d.below(20))
	m.Traps = list(d, impl.TrapMax, func() impl.Trap {
		return impl.Trap{From: d.below(65536), To: d.below(65536), At: d.below(65536), Class: d.below(65536)}
	})
	m.Frames = list(d, impl.FrameMax/4, func() impl.Frame {
		return impl.Frame{At: d.below(65536), Locals: goodKinds(d), Stack: goodKinds(d)}
	})
	return m
}

func goodKinds(d *dice) []impl.Kind {
	return list(d, impl.SlotMax, func() impl.Kind {
		k := impl.Kind{Tag: d.below(4)}
		if k.Tag == impl.TagRef {
			k.Class = d.below(65536)
		}
		return k
	})
}

// bytesOf writes a class as the document tells it, without a look at limits or at what does not fit.
func bytesOf(c impl.Class) string {
	var b strings.Builder
	one := func(n int) { b.WriteByte(byte(n)) }
	two := func(n int) { one(n / 256); one(n % 256) }
	kinds := func(list []impl.Kind) {
		one(len(list))
		for _, k := range list {
			one(k.Tag)
			if k.Tag == impl.TagRef {
				two(k.Class)
			}
		}
	}
	body := func(m impl.Method) {
		one(m.Deep)
		one(m.Locals)
		two(len(m.Code))
		b.WriteString(m.Code)
		one(len(m.Traps))
		for _, t := range m.Traps {
			two(t.From)
			two(t.To)
			two(t.At)
			two(t.Class)
		}
		one(len(m.Frames))
		for _, f := range m.Frames {
			two(f.At)
			kinds(f.Locals)
			kinds(f.Stack)
		}
	}
	b.WriteString("STOW")
	one(len(c.Pool))
	for _, e := range c.Pool {
		one(e.Kind)
		switch e.Kind {
		case impl.ConstName:
			one(len(e.Text))
			b.WriteString(e.Text)
		case impl.ConstClass:
			two(e.A)
		default:
			two(e.A)
			two(e.B)
		}
	}
	one(c.Flags)
	two(c.Name)
	two(c.Super)
	one(len(c.Faces))
	for _, f := range c.Faces {
		two(f)
	}
	one(len(c.Fields))
	for _, f := range c.Fields {
		one(f.Flags)
		two(f.Name)
		two(f.Type)
	}
	one(len(c.Methods))
	for _, m := range c.Methods {
		one(m.Flags)
		two(m.Name)
		two(m.Desc)
		if m.Flags/impl.MemAbstract%2 == 0 {
			body(m)
		}
	}
	return b.String()
}
