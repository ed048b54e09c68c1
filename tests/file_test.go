package tests

import (
	"fmt"
	"strings"
	"testing"

	"loop.example/stowage/impl"
)

// fullClass has all that a class may tell.
func fullClass() impl.Class {
	return impl.Class{
		Pool: []impl.Const{
			{Kind: impl.ConstName, Text: "Ab"},
			{Kind: impl.ConstName},
			{Kind: impl.ConstClass, A: 0x0102},
			{Kind: impl.ConstPair, A: 3, B: 0x0405},
			{Kind: impl.ConstField, A: 6, B: 7},
			{Kind: impl.ConstMethod, A: 8, B: 9},
			{Kind: impl.ConstFace, A: 10, B: 0xffff},
		},
		Flags:  7,
		Name:   0x0b0c,
		Super:  0x0d0e,
		Faces:  []int{1, 0x0203},
		Fields: []impl.Field{{Flags: 3, Name: 0x1112, Type: 0x1314}},
		Methods: []impl.Method{
			{Flags: impl.MemAbstract, Name: 0x1516, Desc: 0x1718},
			{
				Flags: impl.MemStatic, Name: 0x191a, Desc: 0x1b1c, Deep: 0x1d, Locals: 0x1e, Code: "ops",
				Traps: []impl.Trap{{From: 0x2122, To: 0x2324, At: 0x2526, Class: 0x2728}},
				Frames: []impl.Frame{{
					At:     0x3132,
					Locals: []impl.Kind{{}, {Tag: impl.TagInt}, {Tag: impl.TagRef, Class: 0x3334}},
					Stack:  []impl.Kind{{Tag: impl.TagNull}},
				}},
			},
		},
	}
}

const fullBytes = "STOW" +
	"\x07" + "\x01\x02Ab" + "\x01\x00" + "\x02\x01\x02" + "\x03\x00\x03\x04\x05" + "\x04\x00\x06\x00\x07" + "\x05\x00\x08\x00\x09" + "\x06\x00\x0a\xff\xff" +
	"\x07" + "\x0b\x0c" + "\x0d\x0e" +
	"\x02" + "\x00\x01" + "\x02\x03" +
	"\x01" + "\x03\x11\x12\x13\x14" +
	"\x02" + "\x08\x15\x16\x17\x18" +
	"\x01\x19\x1a\x1b\x1c\x1d\x1e" + "\x00\x03ops" +
	"\x01" + "\x21\x22\x23\x24\x25\x26\x27\x28" +
	"\x01" + "\x31\x32" + "\x03" + "\x00" + "\x01" + "\x03\x33\x34" + "\x01" + "\x02"

const emptyBytes = "STOW\x00\x00\x00\x00\x00\x00\x00\x00\x00"

// wantRead fails, unless a class has bytes, and is read back from them.
func wantRead(t *testing.T, what string, c impl.Class) {
	t.Helper()
	s := impl.FilePut(c)
	if s == "" || s != bytesOf(c) {
		t.Errorf("%s: FilePut is %q", what, s)
		return
	}
	x, ok := impl.FileGet(s)
	if !ok || !same(x, c) {
		t.Errorf("%s: FileGet of FilePut is %v %v", what, x, ok)
	}
}

// wantNone fails, unless a class has no bytes.
func wantNone(t *testing.T, what string, c impl.Class) {
	t.Helper()
	if s := impl.FilePut(c); s != "" {
		t.Errorf("%s: FilePut is %q", what, s)
	}
}

// wantNoClass fails, unless bytes are read as nothing.
func wantNoClass(t *testing.T, what string, s string) {
	t.Helper()
	if x, ok := impl.FileGet(s); ok || !same(x, impl.Class{}) {
		t.Errorf("%s: FileGet of %q is %v %v", what, s, x, ok)
	}
}

func TestFileLayout(t *testing.T) {
	if s := impl.FilePut(fullClass()); s != fullBytes {
		t.Errorf("FilePut is %q", s)
	}
	if c, ok := impl.FileGet(fullBytes); !ok || !same(c, fullClass()) {
		t.Errorf("FileGet is %v %v", c, ok)
	}
	if s := impl.FilePut(impl.Class{}); s != emptyBytes {
		t.Errorf("FilePut of nothing is %q", s)
	}
	if c, ok := impl.FileGet(emptyBytes); !ok || !same(c, impl.Class{}) {
		t.Errorf("FileGet of nothing is %v %v", c, ok)
	}
}

// Promise 1.
func TestFileReadBack(t *testing.T) {
	written := 0
	for seed := range 3000 {
		c := goodClass(newDice(seed))
		if len(bytesOf(c)) > impl.FileMax {
			wantNone(t, fmt.Sprint("seed ", seed), c)
			continue
		}
		written++
		wantRead(t, fmt.Sprint("seed ", seed), c)
	}
	if written < 500 {
		t.Error("too few classes fit:", written)
	}
}

// Promise 2: what is cut, or has a byte more.
func TestFileNothingLessOrMore(t *testing.T) {
	texts := []string{fullBytes, emptyBytes}
	for seed := range 60 {
		if s := impl.FilePut(goodClass(newDice(seed))); s != "" {
			texts = append(texts, s)
		}
	}
	for _, s := range texts {
		for i := range len(s) {
			wantNoClass(t, "cut", s[:i])
		}
		for b := range 256 {
			wantNoClass(t, "a byte more", s+string([]byte{byte(b)}))
		}
		wantNoClass(t, "twice", s+s)
	}
}

// Promise 2: whatever is read is written just so.
func TestFileWrittenJustSo(t *testing.T) {
	read := 0
	try := func(s string) {
		c, ok := impl.FileGet(s)
		if !ok {
			return
		}
		read++
		if x := impl.FilePut(c); x != s {
			t.Errorf("%q is written as %q", s, x)
		}
	}
	for i := range len(fullBytes) {
		for b := range 256 {
			try(fullBytes[:i] + string([]byte{byte(b)}) + fullBytes[i+1:])
			try(fullBytes[:i] + string([]byte{byte(b)}) + fullBytes[i:])
		}
		try(fullBytes[:i] + fullBytes[i+1:])
	}
	d := newDice(1)
	for range 3000 {
		s := []byte(impl.FilePut(goodClass(newDice(d.below(50)))))
		for range 1 + d.below(3) {
			if len(s) > 4 {
				s[4+d.below(len(s)-4)] = byte(d.below(20))
			}
		}
		try(string(s))
	}
	if read < 1000 {
		t.Error("too few were read:", read)
	}
}

func many[T any](n int, one T) []T {
	var out []T
	for range n {
		out = append(out, one)
	}
	return out
}

func withBody(m impl.Method) impl.Class {
	return impl.Class{Methods: []impl.Method{m}}
}

func TestFileLimits(t *testing.T) {
	limits := []struct {
		name string
		most int
		make func(n int) impl.Class
	}{
		{"pool", impl.PoolMax, func(n int) impl.Class { return impl.Class{Pool: many(n, impl.Const{Kind: impl.ConstClass, A: 1})} }},
		{"text", 255, func(n int) impl.Class {
			return impl.Class{Pool: []impl.Const{{Kind: impl.ConstName, Text: strings.Repeat("x", n)}}}
		}},
		{"faces", impl.FaceMax, func(n int) impl.Class { return impl.Class{Faces: many(n, 1)} }},
		{"fields", impl.FieldMax, func(n int) impl.Class { return impl.Class{Fields: many(n, impl.Field{})} }},
		{"methods", impl.MethodMax, func(n int) impl.Class { return impl.Class{Methods: many(n, impl.Method{})} }},
		{"abstract methods", impl.MethodMax, func(n int) impl.Class { return impl.Class{Methods: many(n, impl.Method{Flags: impl.MemAbstract})} }},
		{"code", impl.CodeMax, func(n int) impl.Class { return withBody(impl.Method{Code: strings.Repeat("\x00", n)}) }},
		{"traps", impl.TrapMax, func(n int) impl.Class { return withBody(impl.Method{Traps: many(n, impl.Trap{})}) }},
		{"frames", impl.FrameMax, func(n int) impl.Class { return withBody(impl.Method{Frames: many(n, impl.Frame{})}) }},
		{"locals", impl.SlotMax, func(n int) impl.Class {
			return withBody(impl.Method{Frames: []impl.Frame{{Locals: many(n, impl.Kind{})}}})
		}},
		{"stack", impl.SlotMax, func(n int) impl.Class {
			return withBody(impl.Method{Frames: []impl.Frame{{Stack: many(n, impl.Kind{})}}})
		}},
	}
	for _, l := range limits {
		for _, n := range []int{0, 1, l.most - 1, l.most} {
			wantRead(t, fmt.Sprint(l.name, " ", n), l.make(n))
		}
		wantNone(t, l.name+" one more", l.make(l.most+1))
		wantNone(t, l.name+" 256 more", l.make(l.most+256))
		if l.name != "text" { // 256 bytes of a text cannot be told
			wantNoClass(t, l.name+" one more", bytesOf(l.make(l.most+1)))
		}
	}
}

func TestFileMax(t *testing.T) {
	long := func(n int) impl.Class {
		var c impl.Class
		for left := n - len(emptyBytes); left > 0; {
			part := min(left-2, 200)
			c.Pool = append(c.Pool, impl.Const{Kind: impl.ConstName, Text: strings.Repeat("y", part)})
			left -= part + 2
		}
		return c
	}
	wantRead(t, "899", long(impl.FileMax-1))
	wantRead(t, "900", long(impl.FileMax))
	if n := len(impl.FilePut(long(impl.FileMax))); n != impl.FileMax {
		t.Error("not a class of 900 bytes:", n)
	}
	wantNone(t, "901", long(impl.FileMax+1))
	wantNoClass(t, "901", bytesOf(long(impl.FileMax+1)))
}

func TestFileNumbers(t *testing.T) {
	numbers := []struct {
		name string
		most int
		set  func(c *impl.Class, n int)
	}{
		{"A of a class", 65535, func(c *impl.Class, n int) { c.Pool[2].A = n }},
		{"A of a pair", 65535, func(c *impl.Class, n int) { c.Pool[3].A = n }},
		{"B of a pair", 65535, func(c *impl.Class, n int) { c.Pool[3].B = n }},
		{"A of a field", 65535, func(c *impl.Class, n int) { c.Pool[4].A = n }},
		{"B of a field", 65535, func(c *impl.Class, n int) { c.Pool[4].B = n }},
		{"A of a method", 65535, func(c *impl.Class, n int) { c.Pool[5].A = n }},
		{"B of a method", 65535, func(c *impl.Class, n int) { c.Pool[5].B = n }},
		{"A of a face", 65535, func(c *impl.Class, n int) { c.Pool[6].A = n }},
		{"B of a face", 65535, func(c *impl.Class, n int) { c.Pool[6].B = n }},
		{"Flags", 255, func(c *impl.Class, n int) { c.Flags = n }},
		{"Name", 65535, func(c *impl.Class, n int) { c.Name = n }},
		{"Super", 65535, func(c *impl.Class, n int) { c.Super = n }},
		{"a face", 65535, func(c *impl.Class, n int) { c.Faces[1] = n }},
		{"Flags of a field", 255, func(c *impl.Class, n int) { c.Fields[0].Flags = n }},
		{"Name of a field", 65535, func(c *impl.Class, n int) { c.Fields[0].Name = n }},
		{"Type of a field", 65535, func(c *impl.Class, n int) { c.Fields[0].Type = n }},
		{"Flags of a method without a body", 255, func(c *impl.Class, n int) { c.Methods[0].Flags = n | 8 }},
		{"Flags of a method with a body", 247, func(c *impl.Class, n int) { c.Methods[1].Flags = n &^ 8 }},
		{"Name of a method", 65535, func(c *impl.Class, n int) { c.Methods[1].Name = n }},
		{"Desc of a method", 65535, func(c *impl.Class, n int) { c.Methods[1].Desc = n }},
		{"Deep", 255, func(c *impl.Class, n int) { c.Methods[1].Deep = n }},
		{"Locals", 255, func(c *impl.Class, n int) { c.Methods[1].Locals = n }},
		{"From", 65535, func(c *impl.Class, n int) { c.Methods[1].Traps[0].From = n }},
		{"To", 65535, func(c *impl.Class, n int) { c.Methods[1].Traps[0].To = n }},
		{"At of a trap", 65535, func(c *impl.Class, n int) { c.Methods[1].Traps[0].At = n }},
		{"Class of a trap", 65535, func(c *impl.Class, n int) { c.Methods[1].Traps[0].Class = n }},
		{"At of a frame", 65535, func(c *impl.Class, n int) { c.Methods[1].Frames[0].At = n }},
		{"Class of a ref", 65535, func(c *impl.Class, n int) { c.Methods[1].Frames[0].Locals[2].Class = n }},
	}
	for _, x := range numbers {
		for _, n := range []int{0, 1, x.most - 1, x.most} {
			c := fullClass()
			x.set(&c, n)
			wantRead(t, fmt.Sprint(x.name, " ", n), c)
		}
		wrong := []int{-1, -256, -65536, -1 << 62, 65536, 1 << 32, 1 << 62}
		if x.most < 256 {
			wrong = append(wrong, 256)
		}
		for _, n := range wrong {
			c := fullClass()
			x.set(&c, n)
			wantNone(t, fmt.Sprint(x.name, " ", n), c)
		}
	}
}

func TestFileStrayParts(t *testing.T) {
	strays := []struct {
		name string
		set  func(c *impl.Class)
	}{
		{"A of a name", func(c *impl.Class) { c.Pool[0].A = 1 }},
		{"B of a name", func(c *impl.Class) { c.Pool[0].B = 1 }},
		{"Text of a class", func(c *impl.Class) { c.Pool[2].Text = "A" }},
		{"B of a class", func(c *impl.Class) { c.Pool[2].B = 1 }},
		{"Text of a pair", func(c *impl.Class) { c.Pool[3].Text = "A" }},
		{"Text of a field", func(c *impl.Class) { c.Pool[4].Text = "A" }},
		{"Text of a method", func(c *impl.Class) { c.Pool[5].Text = "A" }},
		{"Text of a face", func(c *impl.Class) { c.Pool[6].Text = "A" }},
		{"kind 0", func(c *impl.Class) { c.Pool[3].Kind = 0 }},
		{"kind 7", func(c *impl.Class) { c.Pool[3].Kind = 7 }},
		{"kind -1", func(c *impl.Class) { c.Pool[3].Kind = -1 }},
		{"kind 257", func(c *impl.Class) { c.Pool[0].Kind = 257 }},
		{"tag 4", func(c *impl.Class) { c.Methods[1].Frames[0].Stack[0].Tag = 4 }},
		{"tag -1", func(c *impl.Class) { c.Methods[1].Frames[0].Stack[0].Tag = -1 }},
		{"tag 259", func(c *impl.Class) { c.Methods[1].Frames[0].Locals[2].Tag = 259 }},
		{"Class of TagNone", func(c *impl.Class) { c.Methods[1].Frames[0].Locals[0].Class = 1 }},
		{"Class of TagInt", func(c *impl.Class) { c.Methods[1].Frames[0].Locals[1].Class = 1 }},
		{"Class of TagNull", func(c *impl.Class) { c.Methods[1].Frames[0].Stack[0].Class = -1 }},
		{"Deep without a body", func(c *impl.Class) { c.Methods[0].Deep = 1 }},
		{"Locals without a body", func(c *impl.Class) { c.Methods[0].Locals = 1 }},
		{"Code without a body", func(c *impl.Class) { c.Methods[0].Code = "\x20" }},
		{"Traps without a body", func(c *impl.Class) { c.Methods[0].Traps = []impl.Trap{{}} }},
		{"Frames without a body", func(c *impl.Class) { c.Methods[0].Frames = []impl.Frame{{}} }},
	}
	for _, x := range strays {
		c := fullClass()
		x.set(&c)
		wantNone(t, x.name, c)
	}
}

func TestFileWrongBytes(t *testing.T) {
	wrong := []struct {
		name string
		text string
	}{
		{"nothing", ""},
		{"mark alone", "STOW"},
		{"another mark", "STOP" + emptyBytes[4:]},
		{"a small mark", "stow" + emptyBytes[4:]},
		{"something ahead", "\x00" + emptyBytes},
		{"an entry of kind 0", "STOW\x01\x00\x00\x00" + emptyBytes[5:]},
		{"an entry of kind 7", "STOW\x01\x07\x00\x00\x00\x00" + emptyBytes[5:]},
		{"a text of more than there is", "STOW\x01\x01\xffA" + emptyBytes[5:]},
		{"a text of one more than there is", "STOW\x01\x01\x0a" + emptyBytes[5:]},
		{"more of a pool than there is", "STOW\x02\x01\x01A" + emptyBytes[5:]},
		{"more faces than there are", emptyBytes[:10] + "\x01\x00"},
		{"more fields than there are", emptyBytes[:11] + "\x01\x00"},
		{"more methods than there are", emptyBytes[:12] + "\x01"},
		{"code of more than there is", emptyBytes[:12] + "\x01\x00\x00\x00\x00\x00\x00\x00\x00\x03\x00\x00"},
		{"more traps than there are", emptyBytes[:12] + "\x01\x00\x00\x00\x00\x00\x00\x00\x00\x00\x01\x00"},
		{"more frames than there are", emptyBytes[:12] + "\x01\x00\x00\x00\x00\x00\x00\x00\x00\x00\x00\x02\x00\x00\x00\x00"},
		{"a tag 4", emptyBytes[:12] + "\x01\x00\x00\x00\x00\x00\x00\x00\x00\x00\x00\x01\x00\x00\x01\x04\x00"},
	}
	for _, x := range wrong {
		wantNoClass(t, x.name, x.text)
	}
	if _, ok := impl.FileGet(emptyBytes[:12] + "\x01\x00\x00\x00\x00\x00\x00\x00\x00\x00\x00\x01\x00\x00\x01\x02\x00"); !ok {
		t.Error("a tag 2 is not read where a tag 4 was refused")
	}
}

// A method has no body just if 8 is among its flags, whatever stands beside it.
func TestFileAbstract(t *testing.T) {
	for flags := range 256 {
		bare := impl.Class{Methods: []impl.Method{{Flags: flags}}}
		wantRead(t, fmt.Sprint("bare ", flags), bare)
		body := impl.Class{Methods: []impl.Method{{Flags: flags, Deep: 1}}}
		if flags&8 == 0 {
			wantRead(t, fmt.Sprint("body ", flags), body)
		} else {
			wantNone(t, fmt.Sprint("body ", flags), body)
		}
		want := len(emptyBytes) + 5
		if flags&8 == 0 {
			want += 6
		}
		if n := len(impl.FilePut(bare)); n != want {
			t.Errorf("flags %d: %d bytes, not %d", flags, n, want)
		}
	}
}
