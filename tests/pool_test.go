package tests

import (
	"regexp"
	"strings"
	"testing"

	"loop.example/stowage/impl"
)

// What the document says of names and types, told a second time.
const (
	nameForm = `[a-zA-Z][a-zA-Z0-9]{0,7}`
	typeForm = `(?:I|L` + nameForm + `;)`
)

var (
	nameLike = regexp.MustCompile(`\A(?s:` + nameForm + `)\z`)
	typeLike = regexp.MustCompile(`\A` + typeForm + `\z`)
	descLike = regexp.MustCompile(`\A\((` + typeForm + `{0,4})\)(V|` + typeForm + `)\z`)
	typePart = regexp.MustCompile(typeForm)
)

// allTexts has all texts of at most so many of these bytes.
func allTexts(bytes string, most int) []string {
	out := []string{""}
	last := out
	for range most {
		var next []string
		for _, s := range last {
			for i := range len(bytes) {
				next = append(next, s+bytes[i:i+1])
			}
		}
		out = append(out, next...)
		last = next
	}
	return out
}

var oddTexts = []string{
	"", "I", "V", "L", ";", "L;", "LA", "LA;", "LA;;", "LLA;", "LL;", "LI;", "I;", "II", "LA;I", "ILA;", "L1;", "L1a;", "La1;",
	"LAbcdefgh;", "LAbcdefghi;", "Abcdefgh", "Abcdefghi", "a12345678", "a1234567", "A b", "A\n", "A\x00", "LA\n;", "LA;\n", "Lä;", "ä",
	"()V", "()I", "()", "(V)V", "(", ")", ")V", "((I)V", "(I)V)", "(I)VV", "(I)II", "(IIII)V", "(IIIII)V", "(LA;LB;LC;LD;)LE;",
	"(LA;LB;LC;LD;I)LE;", "(LA)V", "(A)V", "(A;)V", "(LA;)LB", "()L;", "()LAbcdefgh;", "()LAbcdefghi;", "(I)", "(I", "I)V", " ()V", "()V ", "(I I)V", "(I,I)V", "()v", "(i)V",
}

func TestNames(t *testing.T) {
	for b := range 256 {
		s := string([]byte{byte(b)})
		letter := b >= 'a' && b <= 'z' || b >= 'A' && b <= 'Z'
		figure := b >= '0' && b <= '9'
		if impl.NameOk(s) != letter || impl.NameOk("A"+s) != (letter || figure) || impl.NameOk("Abcdefg"+s) != (letter || figure) {
			t.Errorf("%q", s)
		}
	}
	for n := range 2 * impl.NameMax {
		if impl.NameOk(strings.Repeat("a", n)) != (n >= 1 && n <= impl.NameMax) {
			t.Error(n)
		}
	}
	for _, s := range append(allTexts("a9Z_", 4), oddTexts...) {
		if impl.NameOk(s) != nameLike.MatchString(s) {
			t.Errorf("%q", s)
		}
	}
}

// Promise 3.
func TestTypes(t *testing.T) {
	texts := append(allTexts("ILVA1;)", 5), oddTexts...)
	for b := range 256 {
		texts = append(texts, string([]byte{byte(b)}), "L"+string([]byte{byte(b)}), "A"+string([]byte{byte(b)})+"c")
	}
	for _, s := range texts {
		if impl.TypeOk("L"+s+";") != impl.NameOk(s) {
			t.Errorf("L%s; is not so as the name is", s)
		}
		if impl.TypeOk(s) != typeLike.MatchString(s) {
			t.Errorf("type %q", s)
		}
		if _, _, ok := impl.DescOf("(" + s + ")" + s); ok != impl.TypeOk(s) {
			t.Errorf("(%s)%s is not so as the type is", s, s)
		}
	}
	for n := range 2 * impl.NameMax {
		if impl.TypeOk("L"+strings.Repeat("a", n)+";") != (n >= 1 && n <= impl.NameMax) {
			t.Error(n)
		}
	}
}

// Promise 4.
func TestDescs(t *testing.T) {
	read := 0
	for _, s := range append(allTexts("()ILV;", 7), oddTexts...) {
		takes, back, ok := impl.DescOf(s)
		m := descLike.FindStringSubmatch(s)
		if ok != (m != nil) {
			t.Fatalf("%q is %v", s, ok)
		}
		if !ok {
			if len(takes) > 0 || back != "" {
				t.Fatalf("%q has %q %q", s, takes, back)
			}
			continue
		}
		read++
		if "("+strings.Join(takes, "")+")"+back != s || back != m[2] || !same(takes, typePart.FindAllString(m[1], -1)) {
			t.Fatalf("%q is %q %q", s, takes, back)
		}
	}
	if read < 100 {
		t.Error("too few were read:", read)
	}
}

func TestParamMax(t *testing.T) {
	kinds := []string{"I", "LA;", "LAbcdefgh;"}
	d := newDice(4)
	for n := range 2 * impl.ParamMax {
		for range 20 {
			var want []string
			for range n {
				want = append(want, d.pick(kinds))
			}
			for _, back := range append(kinds, "V") {
				takes, gives, ok := impl.DescOf("(" + strings.Join(want, "") + ")" + back)
				if ok != (n <= impl.ParamMax) || ok && (!same(takes, want) || gives != back) {
					t.Error(want, back, takes, gives, ok)
				}
			}
		}
	}
}

// goodPool has an entry of each kind, some of them ahead of what they tell.
func goodPool() []impl.Const {
	return []impl.Const{
		{Kind: impl.ConstField, A: 4, B: 6},   // 1
		{Kind: impl.ConstMethod, A: 4, B: 7},  // 2
		{Kind: impl.ConstFace, A: 4, B: 7},    // 3
		{Kind: impl.ConstClass, A: 5},         // 4
		{Kind: impl.ConstName, Text: "Abc"},   // 5
		{Kind: impl.ConstPair, A: 5, B: 8},    // 6
		{Kind: impl.ConstPair, A: 5, B: 9},    // 7
		{Kind: impl.ConstName, Text: "LAbc;"}, // 8
		{Kind: impl.ConstName, Text: "(I)V"},  // 9
		{Kind: impl.ConstName, Text: "I"},     // 10, a name and a type
	}
}

func TestPoolEntries(t *testing.T) {
	if n := impl.PoolCheck(goodPool()); n != 0 {
		t.Fatal("a pool that is ok:", n)
	}
	changes := []struct {
		name string
		at   int
		e    impl.Const
		want int
	}{
		{"no kind", 10, impl.Const{}, 10},
		{"kind 7", 10, impl.Const{Kind: 7, A: 4, B: 7}, 10},
		{"kind -1", 10, impl.Const{Kind: -1}, 10},
		{"an empty text", 10, impl.Const{Kind: impl.ConstName}, 10},
		{"no name", 10, impl.Const{Kind: impl.ConstName, Text: "9a"}, 10},
		{"a name that is too long", 10, impl.Const{Kind: impl.ConstName, Text: "Abcdefghi"}, 10},
		{"a name that is just so long", 10, impl.Const{Kind: impl.ConstName, Text: "Abcdefgh"}, 0},
		{"half a desc", 10, impl.Const{Kind: impl.ConstName, Text: "(I)"}, 10},
		{"a desc of four", 10, impl.Const{Kind: impl.ConstName, Text: "(IIII)LA;"}, 0},
		{"a desc of five", 10, impl.Const{Kind: impl.ConstName, Text: "(IIIII)V"}, 10},
		{"a name with A", 10, impl.Const{Kind: impl.ConstName, Text: "A", A: 1}, 10},
		{"a name with B", 10, impl.Const{Kind: impl.ConstName, Text: "A", B: 1}, 10},
		{"a class", 10, impl.Const{Kind: impl.ConstClass, A: 5}, 0},
		{"a class of itself", 10, impl.Const{Kind: impl.ConstClass, A: 10}, 10},
		{"a class of a class", 10, impl.Const{Kind: impl.ConstClass, A: 4}, 10},
		{"a class of a type", 10, impl.Const{Kind: impl.ConstClass, A: 8}, 10},
		{"a class of a desc", 10, impl.Const{Kind: impl.ConstClass, A: 9}, 10},
		{"a class of place 0", 10, impl.Const{Kind: impl.ConstClass}, 10},
		{"a class of place -1", 10, impl.Const{Kind: impl.ConstClass, A: -1}, 10},
		{"a class behind the end", 10, impl.Const{Kind: impl.ConstClass, A: 11}, 10},
		{"a class with a text", 10, impl.Const{Kind: impl.ConstClass, Text: "A", A: 5}, 10},
		{"a class with B", 10, impl.Const{Kind: impl.ConstClass, A: 5, B: 5}, 10},
		{"a pair with a type", 10, impl.Const{Kind: impl.ConstPair, A: 5, B: 8}, 0},
		{"a pair with a desc", 10, impl.Const{Kind: impl.ConstPair, A: 5, B: 9}, 0},
		{"a pair with a name", 10, impl.Const{Kind: impl.ConstPair, A: 5, B: 5}, 10},
		{"a pair of a type", 10, impl.Const{Kind: impl.ConstPair, A: 8, B: 8}, 10},
		{"a pair of a class", 10, impl.Const{Kind: impl.ConstPair, A: 4, B: 8}, 10},
		{"a pair of itself", 10, impl.Const{Kind: impl.ConstPair, A: 10, B: 8}, 10},
		{"a pair with itself", 10, impl.Const{Kind: impl.ConstPair, A: 5, B: 10}, 10},
		{"a pair without A", 10, impl.Const{Kind: impl.ConstPair, B: 8}, 10},
		{"a pair without B", 10, impl.Const{Kind: impl.ConstPair, A: 5}, 10},
		{"a pair with a text", 10, impl.Const{Kind: impl.ConstPair, Text: "A", A: 5, B: 8}, 10},
		{"a field", 10, impl.Const{Kind: impl.ConstField, A: 4, B: 6}, 0},
		{"a field with a desc", 10, impl.Const{Kind: impl.ConstField, A: 4, B: 7}, 10},
		{"a field of a name", 10, impl.Const{Kind: impl.ConstField, A: 5, B: 6}, 10},
		{"a field with a type alone", 10, impl.Const{Kind: impl.ConstField, A: 4, B: 8}, 10},
		{"a field of itself", 10, impl.Const{Kind: impl.ConstField, A: 10, B: 6}, 10},
		{"a field with itself", 10, impl.Const{Kind: impl.ConstField, A: 4, B: 10}, 10},
		{"a field behind the end", 10, impl.Const{Kind: impl.ConstField, A: 4, B: 11}, 10},
		{"a field with a text", 10, impl.Const{Kind: impl.ConstField, Text: "A", A: 4, B: 6}, 10},
		{"a method", 10, impl.Const{Kind: impl.ConstMethod, A: 4, B: 7}, 0},
		{"a method with a type", 10, impl.Const{Kind: impl.ConstMethod, A: 4, B: 6}, 10},
		{"a method of a pair", 10, impl.Const{Kind: impl.ConstMethod, A: 6, B: 7}, 10},
		{"a method with a text", 10, impl.Const{Kind: impl.ConstMethod, Text: "A", A: 4, B: 7}, 10},
		{"a face", 10, impl.Const{Kind: impl.ConstFace, A: 4, B: 7}, 0},
		{"a face with a type", 10, impl.Const{Kind: impl.ConstFace, A: 4, B: 6}, 10},
		{"a face without a class", 10, impl.Const{Kind: impl.ConstFace, B: 7}, 10},
		{"a face with a text", 10, impl.Const{Kind: impl.ConstFace, Text: "A", A: 4, B: 7}, 10},
		{"a class whose name is none, told first by a field", 4, impl.Const{Kind: impl.ConstClass, A: 8}, 1},
		{"a name that is gone, told first by a field's class", 5, impl.Const{Kind: impl.ConstName, Text: "(I)V"}, 1},
		{"a pair that is gone, told first by a field", 6, impl.Const{Kind: impl.ConstName, Text: "A"}, 1},
		{"a pair that is gone, told first by a method", 7, impl.Const{Kind: impl.ConstName, Text: "A"}, 2},
		{"a type that is gone, told first by a field's pair", 8, impl.Const{Kind: impl.ConstName, Text: "(I)V"}, 1},
		{"a desc that is gone, told first by a method's pair", 9, impl.Const{Kind: impl.ConstName, Text: "I"}, 2},
		{"a pair that is wrong in its name alone", 6, impl.Const{Kind: impl.ConstPair, A: 9, B: 8}, 6},
		{"a name that is wrong in what it does not tell", 5, impl.Const{Kind: impl.ConstName, Text: "Abc", B: 1}, 5},
	}
	for _, x := range changes {
		pool := goodPool()
		pool[x.at-1] = x.e
		if n := impl.PoolCheck(pool); n != x.want {
			t.Errorf("%s: %d, not %d", x.name, n, x.want)
		}
	}
}

// The first and the last place are places, and one behind the last is none.
func TestPoolEnds(t *testing.T) {
	name, class := impl.Const{Kind: impl.ConstName, Text: "A"}, func(a int) impl.Const { return impl.Const{Kind: impl.ConstClass, A: a} }
	cases := []struct {
		pool []impl.Const
		want int
	}{
		{[]impl.Const{class(2), name}, 0},
		{[]impl.Const{name, class(1)}, 0},
		{[]impl.Const{class(3), name}, 1},
		{[]impl.Const{name, class(0)}, 2},
		{append(many(impl.PoolMax-1, class(impl.PoolMax)), name), 0},
		{many(impl.PoolMax, class(impl.PoolMax+1)), 1},
	}
	for i, x := range cases {
		if n := impl.PoolCheck(x.pool); n != x.want {
			t.Errorf("%d: %d, not %d", i, n, x.want)
		}
	}
}

// Of several that are not ok the first is told.
func TestPoolFirst(t *testing.T) {
	for first := range 8 {
		pool := many(10, impl.Const{Kind: impl.ConstName, Text: "A"})
		pool[first].Text = ""
		pool[9] = impl.Const{}
		pool[8].Text = "("
		if n := impl.PoolCheck(pool); n != first+1 {
			t.Errorf("%d, not %d", n, first+1)
		}
	}
}

func TestPoolMax(t *testing.T) {
	full := func(n int) []impl.Const { return many(n, impl.Const{Kind: impl.ConstName, Text: "A"}) }
	for n, want := range map[int]int{0: 0, 1: 0, impl.PoolMax - 1: 0, impl.PoolMax: 0, impl.PoolMax + 1: impl.PoolMax + 1, 1000: impl.PoolMax + 1} {
		if got := impl.PoolCheck(full(n)); got != want {
			t.Errorf("%d names: %d, not %d", n, got, want)
		}
	}
	pool := full(impl.PoolMax + 5)
	pool[impl.PoolMax] = impl.Const{}
	if n := impl.PoolCheck(pool); n != impl.PoolMax+1 {
		t.Error("one that is not ok behind the last:", n)
	}
	pool[impl.PoolMax-1] = impl.Const{}
	if n := impl.PoolCheck(pool); n != impl.PoolMax {
		t.Error("the last one is not ok:", n)
	}
}

// randomPool has entries one behind the other that are ok.
func randomPool(d *dice) []impl.Const {
	pool := []impl.Const{
		{Kind: impl.ConstName, Text: "A"}, {Kind: impl.ConstName, Text: "I"}, {Kind: impl.ConstName, Text: "()V"},
		{Kind: impl.ConstClass, A: 1}, {Kind: impl.ConstPair, A: 1, B: 2}, {Kind: impl.ConstPair, A: 2, B: 3},
	}
	kinds := []impl.Const{
		{Kind: impl.ConstName, Text: "LA;"}, {Kind: impl.ConstName, Text: "(LA;)I"}, {Kind: impl.ConstName, Text: "b7"}, {Kind: impl.ConstClass, A: 2},
		{Kind: impl.ConstPair, A: 2, B: 2}, {Kind: impl.ConstField, A: 4, B: 5}, {Kind: impl.ConstMethod, A: 4, B: 6}, {Kind: impl.ConstFace, A: 4, B: 6},
	}
	for range d.below(impl.PoolMax - len(pool) + 1) {
		pool = append(pool, kinds[d.below(len(kinds))])
	}
	return pool
}

// Promise 5.
func TestPoolOneMore(t *testing.T) {
	for seed := range 500 {
		pool := randomPool(newDice(seed))
		if n := impl.PoolCheck(pool); n != 0 {
			t.Fatal(seed, n)
		}
		own := len(pool) + 1
		want := own
		if len(pool) == impl.PoolMax {
			want = impl.PoolMax + 1
		}
		for _, e := range []impl.Const{{Kind: impl.ConstClass, A: own}, {Kind: impl.ConstPair, A: own, B: own}, {Kind: impl.ConstField, A: own, B: own}, {Kind: impl.ConstMethod, A: own, B: own}, {Kind: impl.ConstFace, A: own, B: own}, {}} {
			if n := impl.PoolCheck(append(pool[:len(pool):len(pool)], e)); n != want {
				t.Fatalf("seed %d: one that is not ok at %d: %d", seed, own, n)
			}
		}
		want = 0
		if len(pool) == impl.PoolMax {
			want = impl.PoolMax + 1
		}
		for _, s := range []string{"a", "Abcdefgh", "I", "LA;", "()V"} {
			if n := impl.PoolCheck(append(pool[:len(pool):len(pool)], impl.Const{Kind: impl.ConstName, Text: s})); n != want {
				t.Fatalf("seed %d: one more %q: %d", seed, s, n)
			}
		}
	}
}
