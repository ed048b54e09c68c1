package tests

import (
	"fmt"
	"reflect"
	"strings"
	"testing"

	"loop.example/stowage/impl"
)

// Places of soundPool that the tests name.
const (
	nameA      = 1
	classA     = 2
	nameObj    = 3
	classObj   = 4
	nameB      = 5
	classB     = 6
	nameX      = 7
	nameI      = 8 // a type, too
	typeB      = 9
	nameGet    = 10
	descGet    = 11
	descBare   = 12
	pairX      = 13
	fieldX     = 14
	pairGet    = 15
	methodGet  = 16
	faceGet    = 17
	nameBegin  = 18
	classBToo  = 19
	nameXToo   = 20
	descGetToo = 21
	classAToo  = 22
	nameGetToo = 23
	classToo   = 24 // Obj
	descInt    = 25
	descMost   = 26
	classErr   = 28
	descOne    = 29
)

func soundPool() []impl.Const {
	name := func(s string) impl.Const { return impl.Const{Kind: impl.ConstName, Text: s} }
	of := func(kind int, a int, b int) impl.Const { return impl.Const{Kind: kind, A: a, B: b} }
	return []impl.Const{
		name("A"), of(impl.ConstClass, nameA, 0), name("Obj"), of(impl.ConstClass, nameObj, 0), name("B"), of(impl.ConstClass, nameB, 0),
		name("x"), name("I"), name("LB;"), name("get"), name("(ILB;)I"), name("()V"),
		of(impl.ConstPair, nameX, nameI), of(impl.ConstField, classB, pairX),
		of(impl.ConstPair, nameGet, descGet), of(impl.ConstMethod, classB, pairGet), of(impl.ConstFace, classB, pairGet),
		name("begin"), of(impl.ConstClass, nameB, 0), name("x"), name("(ILB;)I"), of(impl.ConstClass, nameA, 0), name("get"), of(impl.ConstClass, nameObj, 0),
		name("()I"), name("(IIII)LB;"), name("Err"), of(impl.ConstClass, 27, 0), name("(I)V"),
	}
}

// codeOf is the bytes of ops, each an op and what stands behind it.
func codeOf(ops ...[2]int) string {
	var b strings.Builder
	for _, x := range ops {
		b.WriteByte(byte(x[0]))
		for left := behind(x[0]); left > 0; left-- {
			b.WriteByte(byte(x[1] >> (8 * (left - 1))))
		}
	}
	return b.String()
}

// soundBody is a method with ops at 0, 2, 5, 8, 11, 14, 17 and 20, of 21 bytes, two traps and two frames.
func soundBody() impl.Method {
	locals := []impl.Kind{{Tag: impl.TagRef, Class: classA}, {Tag: impl.TagInt}, {}}
	return impl.Method{
		Name: nameGet, Desc: descGet, Deep: 2, Locals: 3,
		Code: codeOf([2]int{impl.OpLoad, 1}, [2]int{impl.OpIfZero, 8}, [2]int{impl.OpGo, 0}, [2]int{impl.OpNew, classB}, [2]int{impl.OpGet, fieldX},
			[2]int{impl.OpVirtual, methodGet}, [2]int{impl.OpFace, faceGet}, [2]int{impl.OpGiveInt, 0}),
		Traps: []impl.Trap{{From: 0, To: 8, At: 20, Class: classErr}, {From: 8, To: 21, At: 0}},
		Frames: []impl.Frame{
			{At: 0, Locals: append([]impl.Kind{}, locals...)},
			{At: 8, Locals: append([]impl.Kind{}, locals...), Stack: []impl.Kind{{Tag: impl.TagNull}, {Tag: impl.TagRef, Class: classB}}},
		},
	}
}

func bareBody(name int, flags int) impl.Method {
	return impl.Method{Flags: flags, Name: name, Desc: descBare, Locals: 1 - flags%2, Code: codeOf([2]int{impl.OpGive, 0})}
}

func soundClass() impl.Class {
	return impl.Class{
		Pool: soundPool(), Name: classA, Super: classObj, Faces: []int{classB, classErr},
		Fields:  []impl.Field{{Name: nameX, Type: nameI}, {Flags: 3, Name: nameI, Type: typeB}},
		Methods: []impl.Method{soundBody(), bareBody(nameBegin, impl.MemStatic), bareBody(nameGet, 0)},
	}
}

func soundFace() impl.Class {
	return impl.Class{
		Pool: soundPool(), Flags: impl.FlagFace + impl.FlagAbstract, Name: classA, Super: classObj, Faces: []int{classB},
		Fields:  []impl.Field{{Flags: impl.MemStatic, Name: nameX, Type: nameI}},
		Methods: []impl.Method{{Flags: impl.MemAbstract, Name: nameGet, Desc: descGet}, bareBody(nameBegin, impl.MemStatic), bareBody(nameX, impl.MemStatic)},
	}
}

// formFault is one turn of a class that is fine, and the code that it has then.
type formFault struct {
	name string
	want int
	turn func(c *impl.Class)
}

// fileFaults are of all that has no bytes.
var fileFaults = []formFault{
	{"Flags of 256", 1, func(c *impl.Class) { c.Flags = 256 }},
	{"Flags below 0", 1, func(c *impl.Class) { c.Flags = -1 }},
	{"Name of three bytes", 1, func(c *impl.Class) { c.Name = 65536 }},
	{"Name below 0", 1, func(c *impl.Class) { c.Name = -1 }},
	{"Super below 0", 1, func(c *impl.Class) { c.Super = -1 }},
	{"too many faces", 1, func(c *impl.Class) { c.Faces = []int{classB, classErr, classObj, classA} }},
	{"too many fields", 1, func(c *impl.Class) { c.Fields = many(impl.FieldMax+1, c.Fields[0]) }},
	{"too many methods", 1, func(c *impl.Class) { c.Methods = many(impl.MethodMax+1, c.Methods[0]) }},
	{"too many entries", 1, func(c *impl.Class) { c.Pool = append(c.Pool, many(impl.PoolMax, c.Pool[0])...) }},
	{"an entry of no kind", 1, func(c *impl.Class) { c.Pool[classToo-1].Kind = 7 }},
	{"a name with A", 1, func(c *impl.Class) { c.Pool[nameA-1].A = 1 }},
	{"a class with B", 1, func(c *impl.Class) { c.Pool[classA-1].B = 1 }},
	{"a class with a text", 1, func(c *impl.Class) { c.Pool[classA-1].Text = "A" }},
	{"a text of 256 bytes", 1, func(c *impl.Class) { c.Pool[nameA-1].Text = strings.Repeat("A", 256) }},
	{"too many bytes", 1, func(c *impl.Class) {
		for i := range 4 {
			c.Pool[nameA-1+2*i] = impl.Const{Kind: impl.ConstName, Text: strings.Repeat("A", 255)}
		}
	}},
	{"a field's flags of 256", 1, func(c *impl.Class) { c.Fields[0].Flags = 256 }},
	{"a field's name below 0", 1, func(c *impl.Class) { c.Fields[0].Name = -1 }},
	{"a method's name of three bytes", 1, func(c *impl.Class) { c.Methods[0].Name = 65536 }},
	{"Deep of 256", 1, func(c *impl.Class) { c.Methods[1].Deep = 256 }},
	{"Deep below 0", 1, func(c *impl.Class) { c.Methods[1].Deep = -1 }},
	{"Locals of 256", 1, func(c *impl.Class) { c.Methods[1].Locals = 256 }},
	{"Locals below 0", 1, func(c *impl.Class) { c.Methods[1].Locals = -1 }},
	{"too much code", 1, func(c *impl.Class) { c.Methods[1].Code = strings.Repeat("\x00", impl.CodeMax+1) }},
	{"too many traps", 1, func(c *impl.Class) { c.Methods[1].Traps = many(impl.TrapMax+1, impl.Trap{To: 1}) }},
	{"a trap below 0", 1, func(c *impl.Class) { c.Methods[1].Traps = []impl.Trap{{From: -1, To: 1}} }},
	{"too many frames", 1, func(c *impl.Class) { c.Methods[1].Frames = many(impl.FrameMax+1, impl.Frame{}) }},
	{"too many places of a frame", 1, func(c *impl.Class) {
		c.Methods[1].Frames = []impl.Frame{{Stack: many(impl.SlotMax+1, impl.Kind{})}}
	}},
	{"a kind of no tag", 1, func(c *impl.Class) { c.Methods[1].Frames = []impl.Frame{{Stack: []impl.Kind{{Tag: 4}}}} }},
	{"a number with a class", 1, func(c *impl.Class) {
		c.Methods[1].Deep = 1
		c.Methods[1].Frames = []impl.Frame{{Stack: []impl.Kind{{Tag: impl.TagInt, Class: classA}}}}
	}},
	{"abstract with a body", 1, func(c *impl.Class) { c.Methods[1].Flags, c.Methods[1].Code = impl.MemAbstract, "\x20" }},
}

// poolFaults are of the pool alone.
var poolFaults = []formFault{
	{"no name", 2, func(c *impl.Class) { c.Pool[nameXToo-1].Text = "1x" }},
	{"an empty name", 2, func(c *impl.Class) { c.Pool[nameXToo-1].Text = "" }},
	{"a name of nine bytes", 2, func(c *impl.Class) { c.Pool[nameXToo-1].Text = "abcdefghi" }},
	{"a text of 255 bytes", 2, func(c *impl.Class) { c.Pool[nameXToo-1].Text = strings.Repeat("A", 255) }},
	{"a desc of five", 2, func(c *impl.Class) { c.Pool[descGetToo-1].Text = "(IIIII)V" }},
	{"a class of no name", 2, func(c *impl.Class) { c.Pool[classToo-1].A = typeB }},
	{"a class of itself", 2, func(c *impl.Class) { c.Pool[classToo-1].A = classToo }},
	{"a class of nobody", 2, func(c *impl.Class) { c.Pool[classToo-1].A = 0 }},
	{"a class behind the end", 2, func(c *impl.Class) { c.Pool[classToo-1].A = 65535 }},
	{"a pair without a type", 2, func(c *impl.Class) { c.Pool[pairX-1].B = nameA }},
	{"a field with a desc", 2, func(c *impl.Class) { c.Pool[fieldX-1].B = pairGet }},
	{"a method with a type", 2, func(c *impl.Class) { c.Pool[methodGet-1].B = pairX }},
	{"a face of a name", 2, func(c *impl.Class) { c.Pool[faceGet-1].A = nameB }},
	{"one more that is not ok", 2, func(c *impl.Class) { c.Pool = append(c.Pool, impl.Const{Kind: impl.ConstClass}) }},
}

// headFaults are of Name, Super, Faces and Flags alone, be it a face or not.
var headFaults = []formFault{
	{"no Name", 3, func(c *impl.Class) { c.Name = 0 }},
	{"Name is a name", 3, func(c *impl.Class) { c.Name = nameA }},
	{"Name is a field", 3, func(c *impl.Class) { c.Name = fieldX }},
	{"Name behind the end", 3, func(c *impl.Class) { c.Name = len(c.Pool) + 1 }},
	{"Name far behind the end", 3, func(c *impl.Class) { c.Name = 65535 }},
	{"no Super", 3, func(c *impl.Class) { c.Super = 0 }},
	{"Super is a name", 3, func(c *impl.Class) { c.Super = nameObj }},
	{"Super is a pair", 3, func(c *impl.Class) { c.Super = pairX }},
	{"Super behind the end", 3, func(c *impl.Class) { c.Super = len(c.Pool) + 1 }},
	{"a face that is a name", 3, func(c *impl.Class) { c.Faces = []int{classB, nameB} }},
	{"a face of place 0", 3, func(c *impl.Class) { c.Faces = []int{0} }},
	{"a face that is a method", 3, func(c *impl.Class) { c.Faces = []int{classErr, classB, faceGet} }},
	{"a face behind the end", 3, func(c *impl.Class) { c.Faces = []int{len(c.Pool) + 1} }},
	{"Super is Name", 3, func(c *impl.Class) { c.Super = c.Name }},
	{"Super is of the name of Name", 3, func(c *impl.Class) { c.Super = classAToo }},
	{"a face twice", 3, func(c *impl.Class) { c.Faces = []int{classB, classB} }},
	{"two faces of one name", 3, func(c *impl.Class) { c.Faces = []int{classBToo, classB} }},
	{"the first and the last face of one name", 3, func(c *impl.Class) { c.Faces = []int{classB, classErr, classBToo} }},
	{"the last two faces of one name", 3, func(c *impl.Class) { c.Faces = []int{classErr, classB, classBToo} }},
	{"Flags of 8", 3, func(c *impl.Class) { c.Flags = 8 }},
	{"Flags of 12", 3, func(c *impl.Class) { c.Flags = 12 }},
	{"Flags of 13", 3, func(c *impl.Class) { c.Flags = 13 }},
	{"Flags of 255", 3, func(c *impl.Class) { c.Flags = 255 }},
	{"final and abstract", 3, func(c *impl.Class) { c.Flags = 6 }},
	{"a face, final and abstract", 3, func(c *impl.Class) { c.Flags = 7 }},
	{"a face that is not abstract", 3, func(c *impl.Class) { c.Flags = 1 }},
	{"a final face", 3, func(c *impl.Class) { c.Flags = 3 }},
	{"a face above Obj", 3, func(c *impl.Class) { c.Flags = 5; c.Super = classB }},
	{"a face below Err", 3, func(c *impl.Class) { c.Flags = 5; c.Super = classErr }},
}

// fieldFaults are of fields alone, be it a face or not.
var fieldFaults = []formFault{
	{"a field without a name", 4, func(c *impl.Class) { c.Fields[0].Name = 0 }},
	{"a field's name is a class", 4, func(c *impl.Class) { c.Fields[0].Name = classA }},
	{"a field's name is a type", 4, func(c *impl.Class) { c.Fields[0].Name = typeB }},
	{"a field's name is a desc", 4, func(c *impl.Class) { c.Fields[0].Name = descBare }},
	{"a field's name is a pair", 4, func(c *impl.Class) { c.Fields[0].Name = pairX }},
	{"a field's name behind the end", 4, func(c *impl.Class) { c.Fields[0].Name = len(c.Pool) + 1 }},
	{"a field without a type", 4, func(c *impl.Class) { c.Fields[0].Type = 0 }},
	{"a field's type is a name", 4, func(c *impl.Class) { c.Fields[0].Type = nameB }},
	{"a field's type is a desc", 4, func(c *impl.Class) { c.Fields[0].Type = descInt }},
	{"a field's type is a class", 4, func(c *impl.Class) { c.Fields[0].Type = classB }},
	{"a field's type behind the end", 4, func(c *impl.Class) { c.Fields[0].Type = 65535 }},
	{"a field's flags of 4", 4, func(c *impl.Class) { c.Fields[0].Flags = 4 }},
	{"a field's flags of 5", 4, func(c *impl.Class) { c.Fields[0].Flags = 5 }},
	{"a field's flags of 255", 4, func(c *impl.Class) { c.Fields[0].Flags = 255 }},
	{"a field twice", 4, func(c *impl.Class) { c.Fields = append(c.Fields, c.Fields[0]) }},
	{"two fields of one name", 4, func(c *impl.Class) {
		c.Fields = append(c.Fields, impl.Field{Flags: impl.MemStatic, Name: nameXToo, Type: typeB})
	}},
	{"the first and the last field of one name", 4, func(c *impl.Class) {
		c.Fields = []impl.Field{{Flags: 1, Name: nameX, Type: nameI}, {Flags: 1, Name: nameA, Type: nameI}, {Flags: 1, Name: nameXToo, Type: nameI}}
	}},
	{"the last field alone is wrong", 4, func(c *impl.Class) {
		c.Fields = []impl.Field{{Flags: 1, Name: nameX, Type: nameI}, {Flags: 1, Name: nameA, Type: nameA}}
	}},
}

var faceFieldFaults = []formFault{
	{"a face's field of an object", 4, func(c *impl.Class) { c.Fields[0].Flags = 0 }},
	{"a face's private field of an object", 4, func(c *impl.Class) { c.Fields[0].Flags = 2 }},
	{"a face's private field", 4, func(c *impl.Class) { c.Fields[0].Flags = 3 }},
}

// methodFaults are of methods' heads alone, be it a face or not.
var methodFaults = []formFault{
	{"a method without a name", 5, func(c *impl.Class) { c.Methods[2].Name = 0 }},
	{"a method's name is a class", 5, func(c *impl.Class) { c.Methods[2].Name = classA }},
	{"a method's name is a type", 5, func(c *impl.Class) { c.Methods[2].Name = typeB }},
	{"a method's name is a desc", 5, func(c *impl.Class) { c.Methods[2].Name = descBare }},
	{"a method's name behind the end", 5, func(c *impl.Class) { c.Methods[2].Name = len(c.Pool) + 1 }},
	{"a method without a desc", 5, func(c *impl.Class) { c.Methods[2].Desc = 0 }},
	{"a method's desc is a type", 5, func(c *impl.Class) { c.Methods[2].Desc = typeB }},
	{"a method's desc is a name", 5, func(c *impl.Class) { c.Methods[2].Desc = nameA }},
	{"a method's desc is a pair", 5, func(c *impl.Class) { c.Methods[2].Desc = pairGet }},
	{"a method's desc behind the end", 5, func(c *impl.Class) { c.Methods[2].Desc = 65535 }},
	{"a method's flags of 16", 5, func(c *impl.Class) { c.Methods[2].Flags = 16 }},
	{"a method's flags of 17", 5, func(c *impl.Class) { c.Methods[2].Flags = 17 }},
	{"a method's flags of 24", 5, func(c *impl.Class) { c.Methods[2] = impl.Method{Flags: 24, Name: nameX, Desc: descBare} }},
	{"an abstract method that is static", 5, func(c *impl.Class) { c.Methods[2] = impl.Method{Flags: 9, Name: nameX, Desc: descBare} }},
	{"an abstract method that is private", 5, func(c *impl.Class) { c.Methods[2] = impl.Method{Flags: 10, Name: nameX, Desc: descBare} }},
	{"an abstract method that is final", 5, func(c *impl.Class) { c.Methods[2] = impl.Method{Flags: 12, Name: nameX, Desc: descBare} }},
	{"an abstract method that is all", 5, func(c *impl.Class) { c.Methods[2] = impl.Method{Flags: 15, Name: nameX, Desc: descBare} }},
	{"begin of an object", 5, func(c *impl.Class) { c.Methods[1] = bareBody(nameBegin, 0) }},
	{"a private begin", 5, func(c *impl.Class) { c.Methods[1].Flags = 3 }},
	{"a final begin", 5, func(c *impl.Class) { c.Methods[1].Flags = 5 }},
	{"an abstract begin", 5, func(c *impl.Class) { c.Methods[1] = impl.Method{Flags: 8, Name: nameBegin, Desc: descBare} }},
	{"begin that gives a number", 5, func(c *impl.Class) { c.Methods[1].Desc = descInt }},
	{"begin that takes a number", 5, func(c *impl.Class) { c.Methods[1].Desc = descOne; c.Methods[1].Locals = 1 }},
	{"two begins", 5, func(c *impl.Class) { c.Methods[2] = c.Methods[1] }},
	{"two methods of one name and desc", 5, func(c *impl.Class) {
		c.Methods = append(c.Methods, bareBody(nameGetToo, impl.MemStatic), bareBody(nameGet, impl.MemStatic))
	}},
	{"the first and the last of one name and desc", 5, func(c *impl.Class) {
		c.Methods = []impl.Method{bareBody(nameX, 1), bareBody(nameGet, 1), bareBody(nameA, 1), bareBody(nameXToo, 1)}
	}},
	{"of one name and two descs that are the same", 5, func(c *impl.Class) {
		m := bareBody(nameGet, impl.MemStatic)
		m.Desc, m.Locals = descGetToo, 2
		n := m
		n.Desc = descGet
		c.Methods = []impl.Method{m, n}
	}},
}

var classMethodFaults = []formFault{
	{"an abstract method of a class that is not", 5, func(c *impl.Class) { c.Methods[2] = impl.Method{Flags: 8, Name: nameX, Desc: descBare} }},
}

var faceMethodFaults = []formFault{
	{"a face's method of an object", 5, func(c *impl.Class) { c.Methods[2] = bareBody(nameX, 0) }},
	{"a face's private method", 5, func(c *impl.Class) { c.Methods[2].Flags = 3 }},
	{"a face's final method", 5, func(c *impl.Class) { c.Methods[2].Flags = 5 }},
	{"a face's method that is final and private", 5, func(c *impl.Class) { c.Methods[2].Flags = 7 }},
}

// bodyFaults are of the second method, which is bare, be it a face or not.
var bodyFaults = []formFault{
	{"no code", 6, func(c *impl.Class) { c.Methods[1].Code = "" }},
	{"code of no op", 6, func(c *impl.Class) { c.Methods[1].Code = "\x23" }},
	{"code that is cut", 6, func(c *impl.Class) { c.Methods[1].Code = "\x01\x00" }},
	{"Deep of 9", 6, func(c *impl.Class) { c.Methods[1].Deep = 9 }},
	{"Deep of 255", 6, func(c *impl.Class) { c.Methods[1].Deep = 255 }},
	{"Locals of 9", 6, func(c *impl.Class) { c.Methods[1].Locals = 9 }},
	{"Locals of 255", 6, func(c *impl.Class) { c.Methods[1].Locals = 255 }},
	{"a place that is none", 6, func(c *impl.Class) { c.Methods[1].Code = "\x03\x00\x20" }},
	{"a place behind the last", 6, func(c *impl.Class) { c.Methods[1].Locals = 8; c.Methods[1].Code = "\x20\x06\x08" }},
	{"it goes on in the midst of an op", 6, func(c *impl.Class) { c.Methods[1].Code = "\x12\x00\x01" }},
	{"it goes on behind the end", 6, func(c *impl.Class) { c.Methods[1].Code = "\x12\x00\x03" }},
	{"a trap of nothing", 6, func(c *impl.Class) { c.Methods[1].Traps = []impl.Trap{{}} }},
	{"a frame that is nowhere", 6, func(c *impl.Class) { c.Methods[1].Frames = []impl.Frame{{At: 1}} }},
	{"a frame of too many places", 6, func(c *impl.Class) { c.Methods[1].Frames = []impl.Frame{{Locals: []impl.Kind{{}}}} }},
	{"a frame that is too deep", 6, func(c *impl.Class) { c.Methods[1].Frames = []impl.Frame{{Stack: []impl.Kind{{}}}} }},
	{"a method behind it is wrong", 6, func(c *impl.Class) { c.Methods[2].Deep = 9 }},
}

// codeFaults are of the first method of soundClass.
var codeFaults = []formFault{
	{"fewer Locals than it takes", 6, func(c *impl.Class) {
		c.Methods[0].Locals = 2
		c.Methods[0].Frames = nil
	}},
	{"a trap to where it begins", 6, func(c *impl.Class) { c.Methods[0].Traps[0].To = 0 }},
	{"a trap to ahead of it", 6, func(c *impl.Class) { c.Methods[0].Traps[0].From, c.Methods[0].Traps[0].To = 8, 5 }},
	{"a trap from the midst of an op", 6, func(c *impl.Class) { c.Methods[0].Traps[0].From = 1 }},
	{"a trap at the midst of an op", 6, func(c *impl.Class) { c.Methods[0].Traps[0].At = 10 }},
	{"a trap at the end", 6, func(c *impl.Class) { c.Methods[0].Traps[0].At = 21 }},
	{"a trap from the end", 6, func(c *impl.Class) { c.Methods[0].Traps[0].From, c.Methods[0].Traps[0].To = 21, 22 }},
	{"a trap to the midst of an op", 6, func(c *impl.Class) { c.Methods[0].Traps[0].To = 7 }},
	{"a trap to behind the end", 6, func(c *impl.Class) { c.Methods[0].Traps[0].To = 22 }},
	{"a trap of a name", 6, func(c *impl.Class) { c.Methods[0].Traps[0].Class = nameB }},
	{"a trap of a method", 6, func(c *impl.Class) { c.Methods[0].Traps[0].Class = methodGet }},
	{"a trap of a class behind the end", 6, func(c *impl.Class) { c.Methods[0].Traps[0].Class = len(c.Pool) + 1 }},
	{"the last trap", 6, func(c *impl.Class) { c.Methods[0].Traps[1].Class = nameB }},
	{"a frame in the midst of an op", 6, func(c *impl.Class) { c.Methods[0].Frames[1].At = 9 }},
	{"a frame at the end", 6, func(c *impl.Class) { c.Methods[0].Frames[1].At = 21 }},
	{"a frame where the one ahead is", 6, func(c *impl.Class) { c.Methods[0].Frames[1].At = 0 }},
	{"a frame below the one ahead", 6, func(c *impl.Class) { c.Methods[0].Frames[0].At = 11 }},
	{"a frame with a place less", 6, func(c *impl.Class) { c.Methods[0].Frames[0].Locals = c.Methods[0].Frames[0].Locals[:2] }},
	{"a frame with a place more", 6, func(c *impl.Class) {
		c.Methods[0].Frames[1].Locals = append(c.Methods[0].Frames[1].Locals, impl.Kind{})
	}},
	{"a frame without places", 6, func(c *impl.Class) { c.Methods[0].Frames[0].Locals = nil }},
	{"a frame that is deeper", 6, func(c *impl.Class) { c.Methods[0].Deep = 1 }},
	{"a place of a name", 6, func(c *impl.Class) { c.Methods[0].Frames[0].Locals[0].Class = nameA }},
	{"a place of class 0", 6, func(c *impl.Class) { c.Methods[0].Frames[0].Locals[0].Class = 0 }},
	{"a place of a class behind the end", 6, func(c *impl.Class) { c.Methods[0].Frames[0].Locals[0].Class = len(c.Pool) + 1 }},
	{"a value of a field", 6, func(c *impl.Class) { c.Methods[0].Frames[1].Stack[1].Class = fieldX }},
	{"a value of class 0", 6, func(c *impl.Class) { c.Methods[0].Frames[1].Stack[1].Class = 0 }},
}

func joined(lists ...[]formFault) []formFault {
	var out []formFault
	for _, l := range lists {
		out = append(out, l...)
	}
	return out
}

func classFaults() []formFault {
	return joined(fileFaults, poolFaults, headFaults, fieldFaults, methodFaults, classMethodFaults, bodyFaults, codeFaults)
}

func faceFaults() []formFault {
	return joined(fileFaults, poolFaults, headFaults, fieldFaults, faceFieldFaults, methodFaults, faceMethodFaults, bodyFaults)
}

// wantForm fails, unless a class has a code.
func wantForm(t *testing.T, what string, c impl.Class, want int) {
	t.Helper()
	if n := impl.ClassCheck(c); n != want {
		t.Errorf("%s: %d, not %d", what, n, want)
	}
}

func TestCheckEachFault(t *testing.T) {
	wantForm(t, "a class", soundClass(), impl.FormFine)
	wantForm(t, "a face", soundFace(), impl.FormFine)
	for _, f := range classFaults() {
		c := soundClass()
		f.turn(&c)
		wantForm(t, "a class: "+f.name, c, f.want)
	}
	for _, f := range faceFaults() {
		c := soundFace()
		f.turn(&c)
		wantForm(t, "a face: "+f.name, c, f.want)
	}
}

// Of two faults of two codes the first code is told, whichever comes first into the class.
func TestCheckFirstCode(t *testing.T) {
	bases := []struct {
		name   string
		make   func() impl.Class
		faults []formFault
	}{{"a class", soundClass, classFaults()}, {"a face", soundFace, faceFaults()}}
	for _, b := range bases {
		for _, low := range b.faults {
			for _, high := range b.faults {
				if low.want >= high.want {
					continue
				}
				// A fault of a later part is put in first, as it may make its part anew.
				c := b.make()
				high.turn(&c)
				low.turn(&c)
				wantForm(t, b.name+": "+low.name+", "+high.name, c, low.want)
			}
		}
	}
}

// One of each code, the first taken away one by one.
func TestCheckOrderOfCodes(t *testing.T) {
	turns := []func(c *impl.Class){
		func(c *impl.Class) { c.Methods[2].Deep = 9 },
		func(c *impl.Class) { c.Methods[1].Flags = 3 },
		func(c *impl.Class) { c.Fields[0].Flags = 4 },
		func(c *impl.Class) { c.Super = classA },
		func(c *impl.Class) { c.Pool[nameXToo-1].Text = "1x" },
		func(c *impl.Class) { c.Fields[1].Flags = 256 },
	}
	for _, base := range []func() impl.Class{soundClass, func() impl.Class {
		c := soundFace()
		c.Fields = append(c.Fields, impl.Field{Flags: 1, Name: nameA, Type: nameI})
		return c
	}} {
		for many := range len(turns) + 1 {
			c := base()
			for _, turn := range turns[:many] {
				turn(&c)
			}
			want := 0
			if many > 0 {
				want = impl.FormCode + 1 - many
			}
			wantForm(t, fmt.Sprint(many, " faults"), c, want)
		}
	}
}

// What looks wrong, and is not.
func TestCheckFine(t *testing.T) {
	turns := []formFault{
		{"a final class", 0, func(c *impl.Class) { c.Flags = impl.FlagFinal }},
		{"an abstract class", 0, func(c *impl.Class) { c.Flags = impl.FlagAbstract }},
		{"an abstract method", 0, func(c *impl.Class) {
			c.Flags = impl.FlagAbstract
			c.Methods[2] = impl.Method{Flags: impl.MemAbstract, Name: nameX, Desc: descMost}
		}},
		{"an abstract class below another one", 0, func(c *impl.Class) { c.Flags = impl.FlagAbstract; c.Super = classB }},
		{"below Err", 0, func(c *impl.Class) { c.Super = classErr }},
		{"Name is Obj", 0, func(c *impl.Class) { c.Name = classObj; c.Super = classB }},
		{"Super is a face", 0, func(c *impl.Class) { c.Super = classB }},
		{"a face is Name", 0, func(c *impl.Class) { c.Faces = []int{classA} }},
		{"a face is Super", 0, func(c *impl.Class) { c.Faces = []int{classToo} }},
		{"without faces, fields and methods", 0, func(c *impl.Class) { c.Faces, c.Fields, c.Methods = nil, nil, nil }},
		{"a private field", 0, func(c *impl.Class) { c.Fields[0].Flags = 2 }},
		{"a static field", 0, func(c *impl.Class) { c.Fields[0].Flags = 1 }},
		{"a field's name is that of a class", 0, func(c *impl.Class) { c.Fields[0].Name = nameObj }},
		{"a field's name is I", 0, func(c *impl.Class) { c.Fields = c.Fields[:1]; c.Fields[0].Name = nameI }},
		{"a field's name is begin", 0, func(c *impl.Class) { c.Fields[0].Name = nameBegin }},
		{"a field's name is a method's", 0, func(c *impl.Class) { c.Fields[0].Name = nameGet }},
		{"two fields of one type", 0, func(c *impl.Class) { c.Fields[1].Type = nameI }},
		{"two methods of one name", 0, func(c *impl.Class) { c.Methods[2].Name = nameGetToo }},
		{"two methods of one desc", 0, func(c *impl.Class) { c.Methods[2].Name = nameX }},
		{"a method that is static, private and final", 0, func(c *impl.Class) { c.Methods[2].Flags = 7 }},
		{"a final method", 0, func(c *impl.Class) { c.Methods[2].Flags = 4 }},
		{"a private method", 0, func(c *impl.Class) { c.Methods[2].Flags = 2 }},
		{"no begin", 0, func(c *impl.Class) { c.Methods = c.Methods[:1] }},
		{"no traps and frames", 0, func(c *impl.Class) { c.Methods[0].Traps, c.Methods[0].Frames = nil, nil }},
		{"a trap of any", 0, func(c *impl.Class) { c.Methods[0].Traps[0].Class = 0 }},
		{"a trap up to the end", 0, func(c *impl.Class) { c.Methods[0].Traps[0].To = 21 }},
		{"a trap of the last op", 0, func(c *impl.Class) { c.Methods[0].Traps[0].From, c.Methods[0].Traps[0].To = 20, 21 }},
		{"a trap of one op", 0, func(c *impl.Class) { c.Methods[0].Traps[0].To = 2 }},
		{"a trap at itself", 0, func(c *impl.Class) { c.Methods[0].Traps[0].At = 0 }},
		{"the same trap twice", 0, func(c *impl.Class) { c.Methods[0].Traps[1] = c.Methods[0].Traps[0] }},
		{"one frame alone", 0, func(c *impl.Class) { c.Methods[0].Frames = c.Methods[0].Frames[:1] }},
		{"one frame alone, not at the first op", 0, func(c *impl.Class) { c.Methods[0].Frames = c.Methods[0].Frames[1:] }},
		{"a frame at the last op", 0, func(c *impl.Class) { c.Methods[0].Frames[1].At = 20 }},
		{"a frame just as deep", 0, func(c *impl.Class) { c.Methods[0].Deep = 2 }},
		{"frames of two methods", 0, func(c *impl.Class) {
			c.Methods[2].Frames = []impl.Frame{{Locals: []impl.Kind{{Tag: impl.TagRef, Class: classToo}}}}
		}},
		{"no Deep", 0, func(c *impl.Class) { c.Methods[0].Deep, c.Methods[0].Frames = 0, nil }},
		{"entries of one name", 0, func(c *impl.Class) { c.Name, c.Super = classAToo, classToo }},
	}
	for _, f := range turns {
		c := soundClass()
		f.turn(&c)
		wantForm(t, f.name, c, f.want)
	}
	c := soundFace()
	c.Super = classToo
	wantForm(t, "a face below the other entry of Obj", c, 0)
}

func TestCheckClassFlags(t *testing.T) {
	fine := map[int]bool{0: true, 2: true, 4: true, 5: true}
	for flags := range 256 {
		c := impl.Class{Pool: soundPool(), Flags: flags, Name: classA, Super: classObj}
		want := impl.FormFine
		if !fine[flags] {
			want = impl.FormHead
		}
		wantForm(t, fmt.Sprint("Flags ", flags), c, want)
	}
}

func TestCheckMemberFlags(t *testing.T) {
	for _, class := range []int{0, impl.FlagFinal, impl.FlagAbstract, impl.FlagFace + impl.FlagAbstract} {
		for flags := range 256 {
			what := fmt.Sprint("class ", class, " flags ", flags)
			c := impl.Class{Pool: soundPool(), Flags: class, Name: classA, Super: classObj}
			c.Fields = []impl.Field{{Flags: flags, Name: nameX, Type: nameI}}
			fine := flags < 4 && (class != 5 || flags == 1)
			wantForm(t, "field: "+what, c, map[bool]int{true: impl.FormFine, false: impl.FormField}[fine])
			c.Fields = nil
			m := bareBody(nameX, flags)
			m.Locals = 1
			fine = flags < 8 && (class != 5 || flags == 1)
			if flags/impl.MemAbstract%2 == 1 {
				m = impl.Method{Flags: flags, Name: nameX, Desc: descBare}
				fine = flags == 8 && class >= 4
			}
			c.Methods = []impl.Method{m}
			wantForm(t, "method: "+what, c, map[bool]int{true: impl.FormFine, false: impl.FormMethod}[fine])
			c.Methods[0].Name = nameBegin
			wantForm(t, "begin: "+what, c, map[bool]int{true: impl.FormFine, false: impl.FormMethod}[flags == 1])
		}
	}
}

// oneBody is a class with one method, that is static and bare but for what is given.
func oneBody(m impl.Method) impl.Class {
	m.Flags, m.Name, m.Desc = impl.MemStatic, nameX, descBare
	return impl.Class{Pool: soundPool(), Name: classA, Super: classObj, Methods: []impl.Method{m}}
}

func formOfCode(fine bool) int {
	if fine {
		return impl.FormFine
	}
	return impl.FormCode
}

func TestCheckPlacesBehindOps(t *testing.T) {
	for op := impl.OpLoad; op <= impl.OpRefStore; op++ {
		for locals := range impl.SlotMax + 1 {
			for _, k := range []int{0, 1, locals - 1, locals, locals + 1, 127, 128, 255} {
				if k >= 0 {
					c := oneBody(impl.Method{Locals: locals, Code: codeOf([2]int{op, k})})
					wantForm(t, fmt.Sprint("op ", op, " place ", k, " of ", locals), c, formOfCode(k < locals))
				}
			}
		}
	}
}

func TestCheckWhereOpsGoOn(t *testing.T) {
	starts := map[int]bool{0: true, 1: true, 4: true, 6: true, 9: true}
	for op := impl.OpIfZero; op <= impl.OpGo; op++ {
		for _, at := range []int{0, 1, 2, 3, 4, 5, 6, 7, 8, 9, 10, 11, 256, 260, 65535} {
			c := oneBody(impl.Method{Locals: 1, Code: codeOf([2]int{impl.OpNop, 0}, [2]int{op, at}, [2]int{impl.OpLoad, 0}, [2]int{impl.OpPush, 5}, [2]int{impl.OpGive, 0})})
			wantForm(t, fmt.Sprint("op ", op, " at ", at), c, formOfCode(starts[at]))
		}
	}
}

func TestCheckEntriesBehindOps(t *testing.T) {
	pool := soundPool()
	kinds := map[int]int{
		impl.OpNew: impl.ConstClass, impl.OpCast: impl.ConstClass, impl.OpIs: impl.ConstClass,
		impl.OpGet: impl.ConstField, impl.OpPut: impl.ConstField, impl.OpGetAll: impl.ConstField, impl.OpPutAll: impl.ConstField,
		impl.OpVirtual: impl.ConstMethod, impl.OpSpecial: impl.ConstMethod, impl.OpStatic: impl.ConstMethod, impl.OpFace: impl.ConstFace,
	}
	for op, kind := range kinds {
		for _, place := range []int{0, len(pool) + 1, 256, 65535} {
			wantForm(t, fmt.Sprint("op ", op, " entry ", place), oneBody(impl.Method{Code: codeOf([2]int{op, place})}), impl.FormCode)
		}
		for i, e := range pool {
			wantForm(t, fmt.Sprint("op ", op, " entry ", i+1), oneBody(impl.Method{Code: codeOf([2]int{op, i + 1})}), formOfCode(e.Kind == kind))
		}
	}
}

// Ops that name nothing are fine, whatever number stands behind OpPush.
func TestCheckOtherOps(t *testing.T) {
	for op := range 256 {
		if op > impl.OpPrint {
			wantForm(t, fmt.Sprint("op ", op), oneBody(impl.Method{Code: string([]byte{byte(op)})}), impl.FormCode)
		} else if behind(op) == 0 {
			wantForm(t, fmt.Sprint("op ", op), oneBody(impl.Method{Code: codeOf([2]int{op, 0})}), impl.FormFine)
		}
	}
	for _, n := range []int{-32768, -1, 0, 1, 32767} {
		wantForm(t, fmt.Sprint("push ", n), oneBody(impl.Method{Code: codeOf([2]int{impl.OpPush, n & 65535})}), impl.FormFine)
	}
}

func TestCheckTraps(t *testing.T) {
	starts := map[int]bool{0: true, 1: true, 4: true}
	code := codeOf([2]int{impl.OpNop, 0}, [2]int{impl.OpPush, 1}, [2]int{impl.OpGive, 0})
	for from := range 7 {
		for to := range 7 {
			for at := range 7 {
				c := oneBody(impl.Method{Code: code, Traps: []impl.Trap{{From: from, To: to, At: at}}})
				fine := starts[from] && (starts[to] || to == len(code)) && from < to && starts[at]
				wantForm(t, fmt.Sprint("a trap ", from, to, at), c, formOfCode(fine))
			}
		}
	}
	for place := range len(soundPool()) + 2 {
		c := oneBody(impl.Method{Code: code, Traps: []impl.Trap{{From: 0, To: 5, At: 4, Class: place}}})
		fine := place == 0 || place <= len(c.Pool) && c.Pool[place-1].Kind == impl.ConstClass
		wantForm(t, fmt.Sprint("a trap of ", place), c, formOfCode(fine))
	}
}

func TestCheckFrames(t *testing.T) {
	code := codeOf([2]int{impl.OpNop, 0}, [2]int{impl.OpPush, 1}, [2]int{impl.OpPop, 0}, [2]int{impl.OpGive, 0})
	starts := map[int]bool{0: true, 1: true, 4: true, 5: true}
	for first := range 8 {
		for second := range 8 {
			c := oneBody(impl.Method{Code: code, Frames: []impl.Frame{{At: first}, {At: second}}})
			wantForm(t, fmt.Sprint("frames ", first, second), c, formOfCode(starts[first] && starts[second] && first < second))
		}
	}
	for locals := range impl.SlotMax + 1 {
		for deep := range impl.SlotMax + 1 {
			c := oneBody(impl.Method{Deep: 4, Locals: 5, Code: code, Frames: []impl.Frame{{Locals: many(locals, impl.Kind{}), Stack: many(deep, impl.Kind{Tag: impl.TagInt})}}})
			wantForm(t, fmt.Sprint("a frame of ", locals, deep), c, formOfCode(locals == 5 && deep <= 4))
		}
	}
	for place := range len(soundPool()) + 2 {
		k := []impl.Kind{{Tag: impl.TagNull}, {Tag: impl.TagRef, Class: place}}
		fine := place > 0 && place <= len(soundPool()) && soundPool()[place-1].Kind == impl.ConstClass
		c := oneBody(impl.Method{Deep: 2, Code: code, Frames: []impl.Frame{{Stack: k}}})
		wantForm(t, fmt.Sprint("a value of ", place), c, formOfCode(fine))
		c = oneBody(impl.Method{Locals: 2, Code: code, Frames: []impl.Frame{{Locals: k}}})
		wantForm(t, fmt.Sprint("a place of ", place), c, formOfCode(fine))
	}
}

// Locals hold what a method takes, and its object.
func TestCheckLeastLocals(t *testing.T) {
	descs := map[int]int{descBare: 0, descInt: 0, descOne: 1, descGet: 2, descGetToo: 2, descMost: 4}
	for desc, takes := range descs {
		for flags := range 8 {
			least := takes + 1 - flags%2
			for locals := range 12 {
				c := oneBody(impl.Method{Locals: locals, Code: "\x20"})
				c.Methods[0].Flags, c.Methods[0].Desc = flags, desc
				wantForm(t, fmt.Sprint("desc ", desc, " flags ", flags, " locals ", locals), c, formOfCode(locals >= least && locals <= impl.SlotMax))
			}
		}
	}
}

// Each limit may be met exactly; one more is refused.
func TestCheckLimits(t *testing.T) {
	names := func(n int) impl.Class {
		c := oneBody(impl.Method{Code: "\x20"})
		for i := range 7 {
			c.Pool = append(c.Pool, impl.Const{Kind: impl.ConstName, Text: fmt.Sprint("n", i)})
			c.Pool = append(c.Pool, impl.Const{Kind: impl.ConstClass, A: len(c.Pool)})
		}
		c.Pool = append(c.Pool, many(n-len(c.Pool), impl.Const{Kind: impl.ConstName, Text: "y"})...)
		return c
	}
	own := len(soundPool()) + 1 // the first name of names, its class behind it
	limits := []struct {
		name string
		most int
		want int
		make func(n int) impl.Class
	}{
		{"entries", impl.PoolMax, impl.FormFile, names},
		{"faces", impl.FaceMax, impl.FormFile, func(n int) impl.Class {
			c := names(50)
			for i := range n {
				c.Faces = append(c.Faces, own+2*i+1)
			}
			return c
		}},
		{"fields", impl.FieldMax, impl.FormFile, func(n int) impl.Class {
			c := names(50)
			for i := range n {
				c.Fields = append(c.Fields, impl.Field{Name: own + 2*i, Type: nameI})
			}
			return c
		}},
		{"methods", impl.MethodMax, impl.FormFile, func(n int) impl.Class {
			c := names(50)
			c.Methods = nil
			for i := range n {
				c.Methods = append(c.Methods, bareBody(own+2*i, 1))
			}
			return c
		}},
		{"bytes of code", impl.CodeMax, impl.FormFile, func(n int) impl.Class { return oneBody(impl.Method{Code: strings.Repeat("\x00", n)}) }},
		{"traps", impl.TrapMax, impl.FormFile, func(n int) impl.Class {
			return oneBody(impl.Method{Code: "\x20", Traps: many(n, impl.Trap{To: 1})})
		}},
		{"frames", impl.FrameMax, impl.FormFile, func(n int) impl.Class {
			c := oneBody(impl.Method{Code: strings.Repeat("\x00", n)})
			for i := range n {
				c.Methods[0].Frames = append(c.Methods[0].Frames, impl.Frame{At: i})
			}
			return c
		}},
		{"Deep", impl.SlotMax, impl.FormCode, func(n int) impl.Class { return oneBody(impl.Method{Deep: n, Code: "\x20"}) }},
		{"Locals", impl.SlotMax, impl.FormCode, func(n int) impl.Class { return oneBody(impl.Method{Locals: n, Code: "\x20"}) }},
		{"places of a frame", impl.SlotMax, impl.FormFile, func(n int) impl.Class {
			return oneBody(impl.Method{Locals: n, Code: "\x20", Frames: []impl.Frame{{Locals: many(n, impl.Kind{})}}})
		}},
		{"values of a frame", impl.SlotMax, impl.FormFile, func(n int) impl.Class {
			return oneBody(impl.Method{Deep: n, Code: "\x20", Frames: []impl.Frame{{Stack: many(n, impl.Kind{})}}})
		}},
		{"bytes of a name", impl.NameMax, impl.FormPool, func(n int) impl.Class {
			c := oneBody(impl.Method{Code: "\x20"})
			c.Pool[nameX-1].Text = strings.Repeat("z", n)
			return c
		}},
		{"what a method takes", impl.ParamMax, impl.FormPool, func(n int) impl.Class {
			c := oneBody(impl.Method{Locals: n, Code: "\x20"})
			c.Pool[descBare-1].Text = "(" + strings.Repeat("I", n) + ")V"
			return c
		}},
		{"bytes of a class", impl.FileMax, impl.FormFile, longClass},
	}
	for _, l := range limits {
		wantForm(t, l.name+" one less", l.make(l.most-1), impl.FormFine)
		wantForm(t, l.name, l.make(l.most), impl.FormFine)
		wantForm(t, l.name+" one more", l.make(l.most+1), l.want)
	}
	if n := len(impl.FilePut(longClass(impl.FileMax))); n != impl.FileMax {
		t.Error("not a class of 900 bytes:", n)
	}
}

// longClass is a class of so many bytes.
func longClass(n int) impl.Class {
	c := oneBody(impl.Method{Code: strings.Repeat("\x00", impl.CodeMax)})
	for i := range 4 {
		m := c.Methods[0]
		m.Name = []int{nameA, nameB, nameGet, nameI}[i]
		c.Methods = append(c.Methods, m)
	}
	for left := n - len(bytesOf(c)); left > 0; {
		part := min(left-2, impl.NameMax)
		if left-part-2 > 0 && left-part-2 < 3 {
			part -= 3
		}
		c.Pool = append(c.Pool, impl.Const{Kind: impl.ConstName, Text: strings.Repeat("q", part)})
		left -= part + 2
	}
	return c
}

// formOf tells the codes of a class from all of its faults, the first at the end; it is written otherwise than the program, to be held against it.
func formOf(c impl.Class) int {
	if impl.FilePut(c) == "" {
		return impl.FormFile
	}
	if impl.PoolCheck(c.Pool) != 0 {
		return impl.FormPool
	}
	found := map[int]bool{}
	kinds, texts := map[int]int{}, map[int]string{}
	for i, e := range c.Pool {
		kinds[i+1] = e.Kind
		if e.Kind == impl.ConstName {
			texts[i+1] = e.Text
		}
	}
	for i, e := range c.Pool {
		if e.Kind == impl.ConstClass {
			texts[-i-1] = texts[e.A] // a class's name stands below 0
		}
	}
	isClass := func(n int) bool { return kinds[n] == impl.ConstClass }
	must := func(code int, so bool) {
		if !so {
			found[code] = true
		}
	}
	seen := map[string]int{}
	for _, n := range append([]int{c.Name, c.Super}, c.Faces...) {
		must(impl.FormHead, isClass(n))
	}
	for _, n := range c.Faces {
		seen["face "+texts[-n]]++
	}
	must(impl.FormHead, texts[-c.Name] != texts[-c.Super])
	isFace := c.Flags%2 == 1
	must(impl.FormHead, strings.Contains(" 0 2 4 5 ", fmt.Sprintf(" %d ", c.Flags)))
	must(impl.FormHead, !isFace || texts[-c.Super] == "Obj")
	for _, f := range c.Fields {
		must(impl.FormField, kinds[f.Name] == impl.ConstName && impl.NameOk(texts[f.Name]))
		must(impl.FormField, kinds[f.Type] == impl.ConstName && impl.TypeOk(texts[f.Type]))
		must(impl.FormField, f.Flags < 4 && (!isFace || f.Flags == 1))
		seen["field "+texts[f.Name]]++
	}
	for _, m := range c.Methods {
		takes, _, ok := impl.DescOf(texts[m.Desc])
		must(impl.FormMethod, kinds[m.Name] == impl.ConstName && impl.NameOk(texts[m.Name]))
		must(impl.FormMethod, kinds[m.Desc] == impl.ConstName && ok)
		must(impl.FormMethod, m.Flags <= 8 && (m.Flags != 8 || c.Flags&4 != 0) && (!isFace || m.Flags == 8 || m.Flags == 1))
		must(impl.FormMethod, texts[m.Name] != "begin" || m.Flags == 1 && texts[m.Desc] == "()V")
		seen["method "+texts[m.Name]+" "+texts[m.Desc]]++
		if m.Flags/8%2 == 0 {
			must(impl.FormCode, soundCode(m, len(takes), kinds))
		}
	}
	for s, n := range seen {
		for code, word := range map[int]string{impl.FormHead: "face ", impl.FormField: "field ", impl.FormMethod: "method "} {
			must(code, n == 1 || !strings.HasPrefix(s, word))
		}
	}
	for code := impl.FormHead; code <= impl.FormCode; code++ {
		if found[code] {
			return code
		}
	}
	return impl.FormFine
}

func soundCode(m impl.Method, takes int, kinds map[int]int) bool {
	ops, ok := impl.OpsGet(m.Code)
	starts := map[int]bool{}
	for _, in := range ops {
		starts[in.At] = true
	}
	ok = ok && m.Deep <= 8 && m.Locals <= 8 && m.Locals >= takes+1-m.Flags%2
	for _, in := range ops {
		switch {
		case behind(in.Op) == 1:
			ok = ok && in.Num < m.Locals
		case in.Op >= 14 && in.Op <= 18:
			ok = ok && starts[in.Num]
		case in.Op == 19 || in.Op == 28 || in.Op == 29:
			ok = ok && kinds[in.Num] == impl.ConstClass
		case in.Op >= 20 && in.Op <= 23:
			ok = ok && kinds[in.Num] == impl.ConstField
		case in.Op >= 24 && in.Op <= 26:
			ok = ok && kinds[in.Num] == impl.ConstMethod
		case in.Op == 27:
			ok = ok && kinds[in.Num] == impl.ConstFace
		}
	}
	for _, x := range m.Traps {
		ok = ok && x.From < x.To && starts[x.From] && starts[x.At] && (starts[x.To] || x.To == len(m.Code)) && (x.Class == 0 || kinds[x.Class] == impl.ConstClass)
	}
	ahead := -1
	for _, f := range m.Frames {
		ok = ok && starts[f.At] && f.At > ahead && len(f.Locals) == m.Locals && len(f.Stack) <= m.Deep
		ahead = f.At
		for _, k := range append(append([]impl.Kind{}, f.Locals...), f.Stack...) {
			ok = ok && (k.Tag == impl.TagRef) == (k.Class != 0) && (k.Tag != impl.TagRef || kinds[k.Class] == impl.ConstClass)
		}
	}
	return ok
}

// randomClass is a class that is fine, of soundPool's entries.
func randomClass(d *dice) impl.Class {
	c := impl.Class{Pool: soundPool(), Flags: []int{0, 2, 4, 5}[d.below(4)], Name: classA, Super: []int{classObj, classToo}[d.below(2)]}
	isFace := c.Flags == 5
	if !isFace && d.below(2) == 0 {
		c.Super = classErr
	}
	faces := []int{classB, classErr, classA}
	turn := d.below(3)
	for i := range d.below(4) {
		c.Faces = append(c.Faces, faces[(i+turn)%3])
	}
	names := []int{nameX, nameI, nameA, nameGet, nameB}
	for i := range d.below(6) {
		f := impl.Field{Flags: d.below(4), Name: names[i], Type: []int{nameI, typeB}[d.below(2)]}
		if isFace {
			f.Flags = 1
		}
		c.Fields = append(c.Fields, f)
	}
	descs := []int{descBare, descGet, descInt, descMost, descOne}
	for i := range d.below(6) {
		m := impl.Method{Flags: d.below(8), Name: names[d.below(5)], Desc: descs[i]}
		if isFace {
			m.Flags = 1
		}
		if c.Flags >= 4 && d.below(2) == 0 {
			m.Flags = 8
		} else {
			randomBody(d, &m)
		}
		c.Methods = append(c.Methods, m)
	}
	if d.below(2) == 0 {
		m := impl.Method{Flags: 1, Name: nameBegin, Desc: descBare}
		randomBody(d, &m)
		c.Methods = append(c.Methods, m)
	}
	return c
}

// randomBody gives a method ops, traps and frames that are fine.
func randomBody(d *dice, m *impl.Method) {
	m.Deep, m.Locals = d.below(9), 5+d.below(4)
	many := 1 + d.below(12)
	ops := make([][2]int, many)
	starts := make([]int, many+1)
	for i := range ops {
		ops[i][0] = d.below(impl.OpPrint + 1)
		starts[i+1] = starts[i] + 1 + behind(ops[i][0])
	}
	for i := range ops {
		switch op := ops[i][0]; {
		case op == impl.OpPush:
			ops[i][1] = d.below(65536)
		case behind(op) == 1:
			ops[i][1] = d.below(m.Locals)
		case op >= impl.OpIfZero && op <= impl.OpGo:
			ops[i][1] = starts[d.below(many)]
		case op == impl.OpNew || op == impl.OpCast || op == impl.OpIs:
			ops[i][1] = []int{classA, classB, classObj, classErr, classToo}[d.below(5)]
		case op >= impl.OpGet && op <= impl.OpPutAll:
			ops[i][1] = fieldX
		case op >= impl.OpVirtual && op <= impl.OpStatic:
			ops[i][1] = methodGet
		case op == impl.OpFace:
			ops[i][1] = faceGet
		}
	}
	m.Code = codeOf(ops...)
	for range d.below(impl.TrapMax + 1) {
		from := d.below(many)
		m.Traps = append(m.Traps, impl.Trap{From: starts[from], To: starts[from+1+d.below(many-from)], At: starts[d.below(many)], Class: []int{0, classErr, classB}[d.below(3)]})
	}
	for i := range many {
		if d.below(4) == 0 && len(m.Frames) < impl.FrameMax {
			m.Frames = append(m.Frames, impl.Frame{At: starts[i], Locals: randomKinds(d, m.Locals), Stack: randomKinds(d, d.below(m.Deep+1))})
		}
	}
}

func randomKinds(d *dice, many int) []impl.Kind {
	var out []impl.Kind
	for range many {
		k := impl.Kind{Tag: d.below(4)}
		if k.Tag == impl.TagRef {
			k.Class = []int{classA, classB, classObj, classErr, classToo}[d.below(5)]
		}
		out = append(out, k)
	}
	return out
}

// turnOne gives one number of a class another value, one that is near, or one of the small ones.
func turnOne(d *dice, v reflect.Value) {
	for {
		x := v
		for x.Kind() == reflect.Struct || x.Kind() == reflect.Slice {
			if x.Kind() == reflect.Struct {
				x = x.Field(d.below(x.NumField()))
			} else if x.Len() == 0 {
				break
			} else {
				x = x.Index(d.below(x.Len()))
			}
		}
		switch {
		case x.Kind() == reflect.Int && d.below(2) == 0:
			x.SetInt(x.Int() + int64(d.below(5)) - 2)
			return
		case x.Kind() == reflect.Int:
			x.SetInt(int64(d.below(35)))
			return
		case x.Kind() == reflect.String && x.Len() > 0:
			b := []byte(x.String())
			b[d.below(len(b))] = byte(d.below(36))
			x.SetString(string(b))
			return
		}
	}
}

func TestCheckRandom(t *testing.T) {
	codes := map[int]int{}
	for seed := range 30000 {
		d := newDice(seed)
		c := randomClass(d)
		want := impl.FormFine
		if impl.FilePut(c) == "" {
			want = impl.FormFile
		}
		if n := impl.ClassCheck(c); n != want || formOf(c) != want {
			t.Fatalf("seed %d: %d, not %d", seed, n, want)
		}
		for range 1 + d.below(3) {
			turnOne(d, reflect.ValueOf(&c).Elem())
		}
		n := impl.ClassCheck(c)
		codes[n]++
		if n != formOf(c) {
			t.Fatalf("seed %d: %d, not %d: %v", seed, n, formOf(c), c)
		}
	}
	for code := impl.FormFine; code <= impl.FormCode; code++ {
		if codes[code] < 250 {
			t.Errorf("code %d comes %d times", code, codes[code])
		}
	}
}

// Promise 8.
func TestCheckAheadOfAllElse(t *testing.T) {
	try := func(what string, c impl.Class) {
		t.Helper()
		n := impl.ClassCheck(c)
		if (n == impl.FormFile) != (impl.FilePut(c) == "") {
			t.Fatalf("%s: %d, and FilePut is %q", what, n, impl.FilePut(c))
		}
		if n != impl.FormFile && (n == impl.FormPool) != (impl.PoolCheck(c.Pool) != 0) {
			t.Fatalf("%s: %d, and PoolCheck is %d", what, n, impl.PoolCheck(c.Pool))
		}
		if n < impl.FormFine || n > impl.FormCode {
			t.Fatalf("%s: %d", what, n)
		}
		for _, m := range c.Methods {
			if n != impl.FormFine || m.Flags == impl.MemAbstract {
				continue
			}
			if _, ok := impl.OpsGet(m.Code); !ok || m.Deep > impl.SlotMax || m.Locals > impl.SlotMax {
				t.Fatalf("%s: fine, with %v", what, m)
			}
		}
	}
	for seed := range 3000 {
		d := newDice(seed)
		try(fmt.Sprint("any class ", seed), goodClass(d))
		try(fmt.Sprint("an odd class ", seed), oddClass(seed))
		c := randomClass(d)
		try(fmt.Sprint("a class ", seed), c)
		turnOne(d, reflect.ValueOf(&c).Elem())
		try(fmt.Sprint("a class that is turned ", seed), c)
	}
	try("nothing", impl.Class{})
	wantForm(t, "nothing", impl.Class{}, impl.FormHead)
}
