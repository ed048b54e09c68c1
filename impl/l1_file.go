package impl

import "strings"

// Kinds of a pool's entries, tags of kinds, flags, and limits of files.
const (
	ConstName    = 1
	ConstClass   = 2
	ConstPair    = 3
	ConstField   = 4
	ConstMethod  = 5
	ConstFace    = 6
	TagNone      = 0
	TagInt       = 1
	TagNull      = 2
	TagRef       = 3
	FlagFace     = 1
	FlagFinal    = 2
	FlagAbstract = 4
	MemStatic    = 1
	MemPrivate   = 2
	MemFinal     = 4
	MemAbstract  = 8
	PoolMax      = 60
	FaceMax      = 3
	FieldMax     = 5
	MethodMax    = 6
	CodeMax      = 120
	TrapMax      = 3
	FrameMax     = 8
	SlotMax      = 8
	FileMax      = 900
)

// Const is an entry of a pool: a text, or the places of others.
type Const struct {
	Kind int
	Text string
	A    int
	B    int
}

// Kind is what stands in a place: a tag, and of a ref the place of its class in the pool.
type Kind struct {
	Tag   int
	Class int
}

// Trap is from where to where something that is thrown is caught, where it goes on, and what class it is of (0 any).
type Trap struct {
	From  int
	To    int
	At    int
	Class int
}

// Frame is what stands in all places at an op.
type Frame struct {
	At     int
	Locals []Kind
	Stack  []Kind
}

// Field is a field: flags, and the places of its name and type in the pool.
type Field struct {
	Flags int
	Name  int
	Type  int
}

// Method is a method: flags, the places of its name and type in the pool, and its body.
type Method struct {
	Flags  int
	Name   int
	Desc   int
	Deep   int
	Locals int
	Code   string
	Traps  []Trap
	Frames []Frame
}

// Class is what a file says.
type Class struct {
	Pool    []Const
	Flags   int
	Name    int
	Super   int
	Faces   []int
	Fields  []Field
	Methods []Method
}

// FileGet reads a class.
func FileGet(s string) (Class, bool) {
	if len(s) > FileMax {
		return Class{}, false
	}
	return readFile(s)
}

// FilePut writes a class.
func FilePut(c Class) string {
	var w fileWriter
	w.class(c)
	if w.spoilt || w.Len() > FileMax {
		return ""
	}
	return w.String()
}

const fileMark = "STOW"

// hasBody says whether a body stands behind a method's flags. Flags of 16 and more, that nobody knows, do not matter to it.
func hasBody(flags int) bool {
	return flags&MemAbstract == 0
}

// fileBroken is what a reader panics with: the place that cannot be read.
type fileBroken struct {
	at int
}

// fileReader reads a text from its beginning on; what it cannot read it panics at, so that no caller need ask.
type fileReader struct {
	text string
	at   int
}

// readFile is the one place where a reader's panic is caught.
func readFile(s string) (c Class, ok bool) {
	defer func() {
		if recover() != nil {
			c, ok = Class{}, false
		}
	}()
	r := fileReader{text: s}
	c = r.class()
	r.end()
	return c, true
}

func (r *fileReader) refuse() {
	panic(fileBroken{at: r.at})
}

func (r *fileReader) end() {
	if r.at != len(r.text) {
		r.refuse()
	}
}

// bytes copies what it reads, as an answer shares no memory with the text.
func (r *fileReader) bytes(many int) string {
	if many > len(r.text)-r.at {
		r.refuse()
	}
	r.at += many
	return strings.Clone(r.text[r.at-many : r.at])
}

func (r *fileReader) one() int {
	if r.at >= len(r.text) {
		r.refuse()
	}
	r.at++
	return int(r.text[r.at-1])
}

func (r *fileReader) two() int {
	high := r.one()
	return high*256 + r.one()
}

func (r *fileReader) count(most int) int {
	many := r.one()
	if many > most {
		r.refuse()
	}
	return many
}

func (r *fileReader) class() Class {
	if r.bytes(len(fileMark)) != fileMark {
		r.refuse()
	}
	var c Class
	for range r.count(PoolMax) {
		c.Pool = append(c.Pool, r.entry())
	}
	c.Flags = r.one()
	c.Name = r.two()
	c.Super = r.two()
	for range r.count(FaceMax) {
		c.Faces = append(c.Faces, r.two())
	}
	for range r.count(FieldMax) {
		c.Fields = append(c.Fields, r.field())
	}
	for range r.count(MethodMax) {
		c.Methods = append(c.Methods, r.method())
	}
	return c
}

func (r *fileReader) entry() Const {
	e := Const{Kind: r.one()}
	switch e.Kind {
	case ConstName:
		e.Text = r.bytes(r.one())
	case ConstClass:
		e.A = r.two()
	case ConstPair, ConstField, ConstMethod, ConstFace:
		e.A = r.two()
		e.B = r.two()
	default:
		r.refuse()
	}
	return e
}

func (r *fileReader) field() Field {
	var f Field
	f.Flags = r.one()
	f.Name = r.two()
	f.Type = r.two()
	return f
}

func (r *fileReader) method() Method {
	var m Method
	m.Flags = r.one()
	m.Name = r.two()
	m.Desc = r.two()
	if hasBody(m.Flags) {
		r.body(&m)
	}
	return m
}

func (r *fileReader) body(m *Method) {
	m.Deep = r.one()
	m.Locals = r.one()
	m.Code = r.code()
	for range r.count(TrapMax) {
		m.Traps = append(m.Traps, r.trap())
	}
	for range r.count(FrameMax) {
		m.Frames = append(m.Frames, r.frame())
	}
}

func (r *fileReader) code() string {
	many := r.two()
	if many > CodeMax {
		r.refuse()
	}
	return r.bytes(many)
}

func (r *fileReader) trap() Trap {
	var t Trap
	t.From = r.two()
	t.To = r.two()
	t.At = r.two()
	t.Class = r.two()
	return t
}

func (r *fileReader) frame() Frame {
	var f Frame
	f.At = r.two()
	f.Locals = r.kinds()
	f.Stack = r.kinds()
	return f
}

func (r *fileReader) kinds() []Kind {
	var list []Kind
	for range r.count(SlotMax) {
		list = append(list, r.kind())
	}
	return list
}

func (r *fileReader) kind() Kind {
	k := Kind{Tag: r.one()}
	if k.Tag > TagRef {
		r.refuse()
	}
	if k.Tag == TagRef {
		k.Class = r.two()
	}
	return k
}

// fileWriter writes one part behind the other; a part that no reader would give back spoils the whole.
type fileWriter struct {
	strings.Builder
	spoilt bool
}

func (w *fileWriter) must(so bool) {
	if !so {
		w.spoilt = true
	}
}

func (w *fileWriter) one(n int) {
	w.must(n >= 0 && n <= 255)
	w.WriteByte(byte(n))
}

func (w *fileWriter) two(n int) {
	w.must(n >= 0 && n <= 65535)
	w.WriteByte(byte(n >> 8))
	w.WriteByte(byte(n))
}

// count is how many are to be written: none of too many, as these may be very many.
func (w *fileWriter) count(many int, most int) int {
	w.must(many <= most)
	if many > most {
		return 0
	}
	w.one(many)
	return many
}

func (w *fileWriter) class(c Class) {
	w.WriteString(fileMark)
	for i := range w.count(len(c.Pool), PoolMax) {
		w.entry(c.Pool[i])
	}
	w.one(c.Flags)
	w.two(c.Name)
	w.two(c.Super)
	for i := range w.count(len(c.Faces), FaceMax) {
		w.two(c.Faces[i])
	}
	for i := range w.count(len(c.Fields), FieldMax) {
		w.field(c.Fields[i])
	}
	for i := range w.count(len(c.Methods), MethodMax) {
		w.method(c.Methods[i])
	}
}

func (w *fileWriter) entry(e Const) {
	w.one(e.Kind)
	switch e.Kind {
	case ConstName:
		w.must(e.A == 0 && e.B == 0)
		w.name(e.Text)
	case ConstClass:
		w.must(e.Text == "" && e.B == 0)
		w.two(e.A)
	case ConstPair, ConstField, ConstMethod, ConstFace:
		w.must(e.Text == "")
		w.two(e.A)
		w.two(e.B)
	default:
		w.must(false)
	}
}

func (w *fileWriter) name(s string) {
	w.one(len(s))
	if !w.spoilt {
		w.WriteString(s)
	}
}

func (w *fileWriter) field(f Field) {
	w.one(f.Flags)
	w.two(f.Name)
	w.two(f.Type)
}

func (w *fileWriter) method(m Method) {
	w.one(m.Flags)
	w.two(m.Name)
	w.two(m.Desc)
	if hasBody(m.Flags) {
		w.body(m)
		return
	}
	w.must(m.Deep == 0 && m.Locals == 0 && m.Code == "")
	w.must(len(m.Traps) == 0 && len(m.Frames) == 0)
}

func (w *fileWriter) body(m Method) {
	w.one(m.Deep)
	w.one(m.Locals)
	w.code(m.Code)
	for i := range w.count(len(m.Traps), TrapMax) {
		w.trap(m.Traps[i])
	}
	for i := range w.count(len(m.Frames), FrameMax) {
		w.frame(m.Frames[i])
	}
}

func (w *fileWriter) code(s string) {
	w.must(len(s) <= CodeMax)
	w.two(len(s))
	if !w.spoilt {
		w.WriteString(s)
	}
}

func (w *fileWriter) trap(t Trap) {
	w.two(t.From)
	w.two(t.To)
	w.two(t.At)
	w.two(t.Class)
}

func (w *fileWriter) frame(f Frame) {
	w.two(f.At)
	w.kinds(f.Locals)
	w.kinds(f.Stack)
}

func (w *fileWriter) kinds(list []Kind) {
	for i := range w.count(len(list), SlotMax) {
		w.kind(list[i])
	}
}

func (w *fileWriter) kind(k Kind) {
	w.must(k.Tag <= TagRef)
	w.one(k.Tag)
	if k.Tag == TagRef {
		w.two(k.Class)
		return
	}
	w.must(k.Class == 0)
}
