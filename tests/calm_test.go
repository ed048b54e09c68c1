package tests

import (
	"fmt"
	"math"
	"reflect"
	"strings"
	"testing"

	"loop.example/stowage/impl"
)

// calm calls, and fails, if that panics.
func calm(t *testing.T, what string, call func()) {
	t.Helper()
	defer func() {
		if x := recover(); x != nil {
			t.Fatalf("%s panics: %v", what, x)
		}
	}()
	call()
}

// roomy is a value whose lists are its own, with spare room that is filled, so that a write into it is seen.
func roomy(v reflect.Value) reflect.Value {
	switch v.Kind() {
	case reflect.Slice:
		out := reflect.MakeSlice(v.Type(), v.Len()+3, v.Len()+3)
		for i := range out.Len() {
			if i < v.Len() {
				out.Index(i).Set(roomy(v.Index(i)))
			} else {
				out.Index(i).Set(sentinel(v.Type().Elem()))
			}
		}
		return out.Slice(0, v.Len())
	case reflect.Struct:
		out := reflect.New(v.Type()).Elem()
		for i := range v.NumField() {
			out.Field(i).Set(roomy(v.Field(i)))
		}
		return out
	case reflect.String:
		return reflect.ValueOf(strings.Clone(v.String())).Convert(v.Type())
	}
	return v
}

func sentinel(t reflect.Type) reflect.Value {
	out := reflect.New(t).Elem()
	switch t.Kind() {
	case reflect.Int:
		out.SetInt(-77)
	case reflect.String:
		out.SetString("spare")
	case reflect.Struct:
		for i := range t.NumField() {
			out.Field(i).Set(sentinel(t.Field(i).Type))
		}
	}
	return out
}

// oddNumbers are numbers that a careless sum or place would trip over.
var oddNumbers = []int{math.MinInt, math.MinInt + 1, -65536, -256, -1, 0, 1, 8, 15, 16, 60, 61, 119, 120, 121, 255, 256, 900, 65535, 65536, math.MaxInt - 1, math.MaxInt}

// spoil puts an odd number, text or length somewhere into a value, now and then.
func spoil(d *dice, v reflect.Value, seldom int) {
	switch v.Kind() {
	case reflect.Int:
		if d.below(seldom) == 0 {
			v.SetInt(int64(oddNumbers[d.below(len(oddNumbers))]))
		}
	case reflect.String:
		if d.below(seldom) == 0 {
			v.SetString(d.text(d.below(300)))
		}
	case reflect.Struct:
		for i := range v.NumField() {
			spoil(d, v.Field(i), seldom)
		}
	case reflect.Slice:
		if d.below(seldom) == 0 && v.Len() > 0 {
			for range d.below(70) {
				v.Set(reflect.Append(v, v.Index(0)))
			}
		}
		for i := range v.Len() {
			spoil(d, v.Index(i), seldom)
		}
	}
}

func oddClass(seed int) impl.Class {
	d := newDice(seed)
	c := roomy(reflect.ValueOf(goodClass(d))).Interface().(impl.Class)
	spoil(d, reflect.ValueOf(&c).Elem(), 1+d.below(200))
	return roomy(reflect.ValueOf(c)).Interface().(impl.Class)
}

func TestCalmFiles(t *testing.T) {
	for seed := range 3000 {
		c := oddClass(seed)
		before := frozen(c)
		var s string
		calm(t, "FilePut", func() { s = impl.FilePut(c) })
		if frozen(c) != before {
			t.Fatalf("seed %d: FilePut writes into its argument", seed)
		}
		wantNew(t, "FilePut", s, c)
		if s != "" && s != bytesOf(c) || s == "" && len(bytesOf(c)) <= impl.FileMax && isWhole(c) {
			t.Fatalf("seed %d: %q", seed, s)
		}
		text := s
		if s == "" {
			text = newDice(seed).text(seed % 100)
		}
		var x impl.Class
		var ok bool
		calm(t, "FileGet", func() { x, ok = impl.FileGet(text) })
		wantNew(t, "FileGet", x, text)
		if ok != (s != "") {
			t.Fatalf("seed %d: %v", seed, ok)
		}
	}
	for _, s := range []string{strings.Repeat("STOW", 1<<20), "STOW" + strings.Repeat("\xff", 896), "STOW\x3c" + strings.Repeat("\x01", 895)} {
		calm(t, "FileGet", func() { wantNoClass(t, "long", s) })
	}
}

// isWhole says whether a class is what FileGet reads of the bytes that it would have if nothing were refused.
func isWhole(c impl.Class) bool {
	x, ok := impl.FileGet(bytesOf(c))
	return ok && same(x, c)
}

// An answer that is written into does not change what another call answers.
func TestCalmAnswersAreNew(t *testing.T) {
	first, _ := impl.FileGet(fullBytes)
	first.Pool[0].Text = "changed"
	first.Faces[0] = 9
	first.Fields[0].Name = 9
	first.Methods[1].Traps[0].At = 9
	first.Methods[1].Frames[0].Locals[0].Tag = 9
	first.Methods[1].Frames[0].Stack[0].Tag = 9
	if second, ok := impl.FileGet(fullBytes); !ok || !same(second, fullClass()) {
		t.Error("FileGet kept something")
	}
	takes, _, _ := impl.DescOf("(ILA;)V")
	takes[0] = "changed"
	if again, _, _ := impl.DescOf("(ILA;)V"); !same(again, []string{"I", "LA;"}) {
		t.Error("DescOf kept something")
	}
	ops, _ := impl.OpsGet("\x00\x20")
	ops[0].Op = 9
	if again, _ := impl.OpsGet("\x00\x20"); !same(again, []impl.Ins{{At: 0}, {At: 1, Op: impl.OpGive}}) {
		t.Error("OpsGet kept something")
	}
	c := fullClass()
	s := impl.FilePut(c)
	c.Pool[0].Text, c.Faces[0] = "Z", 77
	if s != fullBytes || impl.FilePut(fullClass()) != fullBytes {
		t.Error("FilePut kept something")
	}
}

func TestCalmNames(t *testing.T) {
	texts := append(allTexts("()ILa1;V\xff", 4), oddTexts...)
	for _, n := range []int{9, 100, 1 << 20} {
		for _, s := range []string{"a", "I", "L", "(", ";", "LA;", "(I", "\x00", "\xff"} {
			texts = append(texts, strings.Repeat(s, n), "("+strings.Repeat(s, n)+")V", "()"+strings.Repeat(s, n), "L"+strings.Repeat(s, n)+";")
		}
	}
	for _, s := range texts {
		calm(t, "NameOk", func() { impl.NameOk(s) })
		calm(t, "TypeOk", func() { impl.TypeOk(s) })
		calm(t, "DescOf", func() {
			takes, back, _ := impl.DescOf(s)
			wantNew(t, "DescOf", struct {
				Takes []string
				Back  string
			}{takes, back}, s)
		})
	}
}

func TestCalmPools(t *testing.T) {
	for seed := range 3000 {
		d := newDice(seed)
		pool := randomPool(d)
		spoil(d, reflect.ValueOf(&pool).Elem(), 1+d.below(100))
		pool = roomy(reflect.ValueOf(pool)).Interface().([]impl.Const)
		before := frozen(pool)
		n := 0
		calm(t, "PoolCheck", func() { n = impl.PoolCheck(pool) })
		if frozen(pool) != before {
			t.Fatalf("seed %d: PoolCheck writes into its argument", seed)
		}
		if n < 0 || n > len(pool) || n > impl.PoolMax+1 {
			t.Fatalf("seed %d: %d of %d", seed, n, len(pool))
		}
	}
	for kind := -1; kind <= 7; kind++ {
		for _, a := range oddNumbers {
			for _, b := range oddNumbers {
				pool := append(goodPool(), impl.Const{Kind: kind, A: a, B: b})
				calm(t, fmt.Sprint("PoolCheck ", kind, a, b), func() { impl.PoolCheck(pool) })
			}
		}
	}
}

func TestCalmOps(t *testing.T) {
	for seed := range 3000 {
		d := newDice(seed)
		ops := goodOps(d, 3+d.below(200))
		spoil(d, reflect.ValueOf(&ops).Elem(), 1+d.below(100))
		ops = roomy(reflect.ValueOf(ops)).Interface().([]impl.Ins)
		before := frozen(ops)
		var s string
		calm(t, "OpsPut", func() { s = impl.OpsPut(ops) })
		if frozen(ops) != before {
			t.Fatalf("seed %d: OpsPut writes into its argument", seed)
		}
		var got []impl.Ins
		calm(t, "OpsGet", func() { got, _ = impl.OpsGet(s) })
		if s != "" && !same(got, ops) {
			t.Fatalf("seed %d: %v is written, that is %v", seed, ops, got)
		}
		wantNew(t, "OpsGet", got, ops)
	}
	for _, s := range []string{strings.Repeat("\x00", 1<<20), strings.Repeat("\xff", 120), strings.Repeat("\x01", 119)} {
		calm(t, "OpsGet", func() {
			if list, ok := impl.OpsGet(s); ok || len(list) > 0 {
				t.Error("a long text", len(s))
			}
		})
	}
}

func TestCalmCheck(t *testing.T) {
	try := func(what string, c impl.Class) {
		c = roomy(reflect.ValueOf(c)).Interface().(impl.Class)
		before := frozen(c)
		n := 0
		calm(t, "ClassCheck of "+what, func() { n = impl.ClassCheck(c) })
		if frozen(c) != before {
			t.Fatalf("%s: ClassCheck writes into its argument", what)
		}
		if n < impl.FormFine || n > impl.FormCode || n != formOf(c) {
			t.Fatalf("%s: %d", what, n)
		}
	}
	for seed := range 3000 {
		d := newDice(seed)
		try(fmt.Sprint("an odd class ", seed), oddClass(seed))
		c := randomClass(d)
		spoil(d, reflect.ValueOf(&c).Elem(), 1+d.below(200))
		try(fmt.Sprint("a class ", seed), c)
	}
	for _, n := range oddNumbers {
		for _, place := range numbersOf(soundClass()) {
			c := soundClass()
			place(&c).SetInt(int64(n))
			try(fmt.Sprint("a class with ", n), c)
		}
	}
	for _, n := range []int{100, 3000} {
		c := soundClass()
		c.Pool = many(n, c.Pool[0])
		try("a long pool", c)
		c = soundClass()
		c.Faces, c.Fields = many(n, c.Faces[0]), many(n, c.Fields[0])
		try("many faces and fields", c)
		c = soundClass()
		c.Methods = many(n/10, c.Methods[0])
		try("many methods", c)
		c = soundClass()
		m := &c.Methods[0]
		m.Traps, m.Frames, m.Code = many(n, m.Traps[0]), many(n, m.Frames[0]), strings.Repeat("\x00", n)
		try("a long method", c)
	}
}

// numbersOf finds each number of a class anew in another one of that shape.
func numbersOf(c impl.Class) []func(c *impl.Class) reflect.Value {
	var out []func(c *impl.Class) reflect.Value
	var walk func(v reflect.Value, path []int)
	walk = func(v reflect.Value, path []int) {
		many := 0
		switch v.Kind() {
		case reflect.Int:
			own := append([]int{}, path...)
			out = append(out, func(c *impl.Class) reflect.Value { return follow(reflect.ValueOf(c).Elem(), own) })
		case reflect.Struct:
			many = v.NumField()
		case reflect.Slice:
			many = v.Len()
		}
		for i := range many {
			walk(follow(v, []int{i}), append(path, i))
		}
	}
	walk(reflect.ValueOf(c), nil)
	return out
}

func follow(v reflect.Value, path []int) reflect.Value {
	for _, i := range path {
		if v.Kind() == reflect.Struct {
			v = v.Field(i)
		} else {
			v = v.Index(i)
		}
	}
	return v
}

// What was asked ahead does not matter.
func TestCalmCheckKeepsNothing(t *testing.T) {
	faults := classFaults()
	for seed := range 2000 {
		f := faults[newDice(seed).below(len(faults))]
		c := soundClass()
		f.turn(&c)
		wantForm(t, f.name, c, f.want)
		wantForm(t, f.name+" again", c, f.want)
		wantForm(t, "behind "+f.name, soundClass(), impl.FormFine)
	}
}
