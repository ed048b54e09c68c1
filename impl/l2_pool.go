package impl

import "strings"

// Limits of names and types.
const (
	NameMax  = 8
	ParamMax = 4
)

// NameOk says whether a text is a name.
func NameOk(s string) bool {
	if len(s) < 1 || len(s) > NameMax || isFigure(s[0]) {
		return false
	}
	for i := range len(s) {
		if !isFigure(s[i]) && !isLetter(s[i]) {
			return false
		}
	}
	return true
}

// TypeOk says whether a text is a type.
func TypeOk(s string) bool {
	return typeEnd(s, 0) == len(s)
}

// DescOf is what a method takes, and gives back.
func DescOf(s string) ([]string, string, bool) {
	if !strings.HasPrefix(s, "(") {
		return nil, "", false
	}
	var takes []string
	at := 1
	for end := typeEnd(s, at); end >= 0; end = typeEnd(s, at) {
		if len(takes) == ParamMax {
			return nil, "", false
		}
		takes = append(takes, strings.Clone(s[at:end]))
		at = end
	}
	if at == len(s) || s[at] != ')' {
		return nil, "", false
	}
	back := s[at+1:]
	if back != typeNothing && !TypeOk(back) {
		return nil, "", false
	}
	return takes, strings.Clone(back), true
}

// PoolCheck is the first entry of a pool that is not ok.
func PoolCheck(pool []Const) int {
	list := entriesOf(pool)
	for i := range min(len(list), PoolMax) {
		if !list[i].fine(list) {
			return i + 1
		}
	}
	if len(list) > PoolMax {
		return PoolMax + 1
	}
	return 0
}

const (
	typeInt     = "I"
	typeNothing = "V"
)

func isFigure(b byte) bool {
	return b >= '0' && b <= '9'
}

func isLetter(b byte) bool {
	return b >= 'a' && b <= 'z' || b >= 'A' && b <= 'Z'
}

// typeEnd is the place behind the type that begins at a place, -1, if none does.
func typeEnd(s string, at int) int {
	if at >= len(s) {
		return -1
	}
	if s[at] == 'I' {
		return at + 1
	}
	if s[at] != 'L' {
		return -1
	}
	many := strings.IndexByte(s[at:], ';')
	if many < 0 || !NameOk(s[at+1:at+many]) {
		return -1
	}
	return at + many + 1
}

func isDesc(s string) bool {
	_, _, ok := DescOf(s)
	return ok
}

// poolEntry is an entry as its kind has it: it knows what it asks of those that it tells.
type poolEntry interface {
	fine(list []poolEntry) bool
}

// nameEntry is a name, a type, or what a method takes and gives back. Bare, of all kinds: what the kind does not tell is 0 or empty; who tells an entry does not ask for that.
type nameEntry struct {
	text string
	bare bool
}

// classEntry is a class, by the place of its name.
type classEntry struct {
	name int
	bare bool
}

// pairEntry is a name, and a field's type or a method's.
type pairEntry struct {
	name int
	desc int
	bare bool
}

// memberEntry is what fields and methods tell alike.
type memberEntry struct {
	class int
	pair  int
	bare  bool
}

// fieldEntry is a field of a class.
type fieldEntry struct {
	memberEntry
}

// methodEntry is a method of a class, or of a face.
type methodEntry struct {
	memberEntry
}

// strayEntry is what stands where there is no entry of a known kind.
type strayEntry struct{}

func entriesOf(pool []Const) []poolEntry {
	var list []poolEntry
	for _, c := range pool {
		list = append(list, entryOf(c))
	}
	return list
}

func entryOf(c Const) poolEntry {
	member := memberEntry{class: c.A, pair: c.B, bare: c.Text == ""}
	switch c.Kind {
	case ConstName:
		return nameEntry{text: c.Text, bare: c.A == 0 && c.B == 0}
	case ConstClass:
		return classEntry{name: c.A, bare: c.Text == "" && c.B == 0}
	case ConstPair:
		return pairEntry{name: c.A, desc: c.B, bare: c.Text == ""}
	case ConstField:
		return fieldEntry{member}
	case ConstMethod, ConstFace:
		return methodEntry{member}
	}
	return strayEntry{}
}

func (e nameEntry) fine(list []poolEntry) bool {
	return e.bare && (NameOk(e.text) || TypeOk(e.text) || isDesc(e.text))
}

func (e classEntry) fine(list []poolEntry) bool {
	return e.bare && e.named(list)
}

func (e pairEntry) fine(list []poolEntry) bool {
	return e.bare && nameAt(list, e.name) && (e.typed(list) || e.called(list))
}

func (e fieldEntry) fine(list []poolEntry) bool {
	pair, ok := pairAt(list, e.pair)
	return e.bare && classAt(list, e.class) && ok && pair.typed(list)
}

func (e methodEntry) fine(list []poolEntry) bool {
	pair, ok := pairAt(list, e.pair)
	return e.bare && classAt(list, e.class) && ok && pair.called(list)
}

func (e strayEntry) fine(list []poolEntry) bool {
	return false
}

// named says whether a class's name is one.
func (e classEntry) named(list []poolEntry) bool {
	return nameAt(list, e.name)
}

// typed says whether a pair is that of a field.
func (e pairEntry) typed(list []poolEntry) bool {
	text, ok := textAt(list, e.desc)
	return ok && TypeOk(text)
}

// called says whether a pair is that of a method.
func (e pairEntry) called(list []poolEntry) bool {
	text, ok := textAt(list, e.desc)
	return ok && isDesc(text)
}

func entryAt(list []poolEntry, place int) poolEntry {
	if place < 1 || place > len(list) {
		return strayEntry{}
	}
	return list[place-1]
}

func textAt(list []poolEntry, place int) (string, bool) {
	e, ok := entryAt(list, place).(nameEntry)
	return e.text, ok
}

func nameAt(list []poolEntry, place int) bool {
	text, ok := textAt(list, place)
	return ok && NameOk(text)
}

func classAt(list []poolEntry, place int) bool {
	e, ok := entryAt(list, place).(classEntry)
	return ok && e.named(list)
}

func pairAt(list []poolEntry, place int) (pairEntry, bool) {
	e, ok := entryAt(list, place).(pairEntry)
	return e, ok
}

// constAt is the entry at a place of a pool, nothing, if there is none.
func constAt(pool []Const, place int) Const {
	if place < 1 || place > len(pool) {
		return Const{}
	}
	return pool[place-1]
}

func isClassAt(pool []Const, place int) bool {
	return constAt(pool, place).Kind == ConstClass
}

// nameTextAt is the text of an entry of a pool that is ok, where none but a ConstName has one.
func nameTextAt(pool []Const, place int) string {
	return constAt(pool, place).Text
}

// classTextAt is the name of the class that a ConstClass tells.
func classTextAt(pool []Const, place int) string {
	return nameTextAt(pool, constAt(pool, place).A)
}
