package tests

import (
	"fmt"
	"math"
	"slices"
	"strings"
	"testing"

	"loop.example/stowage/impl"
)

// poolOf is a pool as poolWords tells it.
func poolOf(words string) []impl.Const {
	var out []impl.Const
	for _, w := range strings.Fields(words) {
		if text, ok := strings.CutPrefix(w, "'"); ok {
			out = append(out, impl.Const{Kind: impl.ConstName, Text: text})
			continue
		}
		a, b, _ := strings.Cut(w[1:]+",0", ",")
		b, _, _ = strings.Cut(b, ",")
		out = append(out, impl.Const{Kind: strings.IndexByte("cpfmi", w[0]) + impl.ConstClass, A: number(a), B: number(b)})
	}
	return out
}

// saidIn is what an entry of a pool says.
func saidIn(pool []impl.Const, place int) string {
	e := pool[place-1]
	switch e.Kind {
	case impl.ConstName:
		return e.Text
	case impl.ConstClass:
		return "class " + saidIn(pool, e.A)
	case impl.ConstPair:
		return "pair " + saidIn(pool, e.A) + " " + saidIn(pool, e.B)
	}
	class, pair := saidIn(pool, e.A), saidIn(pool, e.B)
	return fmt.Sprint(e.Kind, " ", strings.TrimPrefix(class, "class "), " ", strings.TrimPrefix(pair, "pair "))
}

// likeIn are the places of entries of one kind that say the same, ascending.
func likeIn(pool []impl.Const, place int) []int {
	var out []int
	for i, e := range pool {
		if e.Kind == pool[place-1].Kind && saidIn(pool, i+1) == saidIn(pool, place) {
			out = append(out, i+1)
		}
	}
	return out
}

// usedIn is the places that are named, told a second time: as long as there is one more, it is looked for again.
func usedIn(c impl.Class) []int {
	named := make([]bool, len(c.Pool)+1)
	renumbered(c, nil, func(place int) int {
		named[place] = true
		return place
	})
	for range c.Pool {
		for i, e := range c.Pool {
			if named[i+1] {
				named[e.A], named[e.B] = true, true
			}
		}
	}
	var out []int
	for place := 1; place < len(named); place++ {
		if named[place] {
			out = append(out, place)
		}
	}
	return out
}

// packedIn is a class packed a second time.
func packedIn(c impl.Class) impl.Class {
	used := usedIn(c)
	var pool []impl.Const
	at := map[int]int{}
	for i, e := range c.Pool {
		like := likeIn(c.Pool, i+1)
		if like[0] == i+1 && slices.ContainsFunc(like, func(place int) bool { return slices.Contains(used, place) }) {
			pool = append(pool, e)
			at[i+1] = len(pool)
		}
	}
	return renumbered(c, pool, func(place int) int { return at[likeIn(c.Pool, place)[0]] })
}

// checkPack holds a class against the promises 73 to 76.
func checkPack(t *testing.T, what string, c impl.Class) {
	t.Helper()
	used, packed := impl.PackUsed(c), impl.PackOf(c)
	if !slices.Equal(used, usedIn(c)) || !slices.IsSorted(used) {
		t.Fatalf("%s: PackUsed is %v of %s", what, used, poolWords(c.Pool))
	}
	if want := packedIn(c); !same(packed, want) {
		t.Fatalf("%s: %s, wanted %s, of %s", what, poolWords(packed.Pool), poolWords(want.Pool), poolWords(c.Pool))
	}
	if impl.ClassCheck(packed) != impl.FormFine || len(impl.FilePut(packed)) > len(impl.FilePut(c)) || linesOf(packed) != linesOf(c) || !same(impl.PackOf(packed), packed) {
		t.Fatal(what, poolWords(packed.Pool))
	}
	if impl.AsmPut(c) != "" && !same(packed, c) {
		t.Fatal(what, "as lines make it", poolWords(packed.Pool))
	}
	var texts []string
	for i, e := range packed.Pool {
		texts = append(texts, fmt.Sprint(e.Kind, impl.PackText(packed, i+1)))
	}
	for place := -1; place <= len(c.Pool)+2; place++ {
		want := ""
		if place > 0 && place <= len(c.Pool) {
			want = saidIn(c.Pool, place)
		}
		text := impl.PackText(c, place)
		if text != want {
			t.Fatalf("%s: PackText of %d is %q, wanted %q", what, place, text, want)
		}
		if slices.Contains(used, place) && !slices.Contains(texts, fmt.Sprint(c.Pool[place-1].Kind, text)) {
			t.Fatal(what, place, text, "is not in", texts)
		}
	}
	if all := impl.PackUsed(packed); len(all) != len(packed.Pool) || len(unlike(texts)) != len(texts) {
		t.Fatal(what, all, texts)
	}
}

// unlike is each of a list once.
func unlike(list []string) []string {
	list = slices.Clone(list)
	slices.Sort(list)
	return slices.Compact(list)
}

// Each kind of entry by what it says, whoever names it; a place that is none says nothing.
func TestPackText(t *testing.T) {
	c := classOf("class A Obj 0\nmethod f ()V 1 0 0\n  give\n")
	c.Pool = append(c.Pool, poolOf("'x 'LA; p7,8 f2,9 'get '(ILA;)I p11,12 m2,13 i2,13 'I 'Abcdefg8 c17 p17,16 f18,19 '()LAbcdefg8; p5,21 m4,22 i18,22")...)
	want := strings.Split("A/class A/Obj/class Obj/f/()V/x/LA;/pair x LA;/4 A x LA;/get/(ILA;)I/pair get (ILA;)I/5 A get (ILA;)I/6 A get (ILA;)I/I/Abcdefg8/class Abcdefg8/pair Abcdefg8 I/4 Abcdefg8 Abcdefg8 I/()LAbcdefg8;/pair f ()LAbcdefg8;/5 Obj f ()LAbcdefg8;/6 Abcdefg8 f ()LAbcdefg8;", "/")
	if len(want) != len(c.Pool) || impl.ClassCheck(c) != impl.FormFine {
		t.Fatal(len(want), poolWords(c.Pool))
	}
	for i, text := range want {
		if got := impl.PackText(c, i+1); got != text {
			t.Errorf("%d: %q, wanted %q", i+1, got, text)
		}
	}
	for _, place := range append([]int{0, -1, -2, 25, 26, 60, 61, 65537}, oddNumbers...) {
		if place < 1 || place > len(want) {
			if got := impl.PackText(c, place); got != "" {
				t.Errorf("%d: %q", place, got)
			}
		}
	}
}

// namers name an entry of a class by one part alone: the lines, and the word of what the part names.
var namers = []struct {
	what  string
	src   string
	place func(c *impl.Class) *int
}{
	{"Name", "class Q Obj 0\n", func(c *impl.Class) *int { return &c.Name }},
	{"Super", "class A Q 0\n", func(c *impl.Class) *int { return &c.Super }},
	{"the first face", "class A Obj 0\nface Q\nface F\n", func(c *impl.Class) *int { return &c.Faces[0] }},
	{"the last face", "class A Obj 0\nface F\nface G\nface Q\n", func(c *impl.Class) *int { return &c.Faces[2] }},
	{"a field's name", "class A Obj 0\nfield q I 0\nfield x I 0\n", func(c *impl.Class) *int { return &c.Fields[0].Name }},
	{"a field's type", "class A Obj 0\nfield x I 0\nfield y LQ; 0\n", func(c *impl.Class) *int { return &c.Fields[1].Type }},
	{"a method's name", "class A Obj 4\nmethod q ()V 8\n", func(c *impl.Class) *int { return &c.Methods[0].Name }},
	{"a method's type", "class A Obj 4\nmethod f ()V 8\nmethod f (LQ;)V 8\n", func(c *impl.Class) *int { return &c.Methods[1].Desc }},
	{"a trap's class", knowBy("()V", 1, 1, "give / pop / give / trap 0 1 1 Err / trap 0 2 1 Q"), func(c *impl.Class) *int { return &c.Methods[0].Traps[1].Class }},
	{"a local of a frame", knowBy("()V", 1, 2, "give / give / frame 0 -,LA; . / frame 1 LA;,LQ; ."), func(c *impl.Class) *int { return &c.Methods[0].Frames[1].Locals[1].Class }},
	{"the stack of a frame", knowBy("()V", 1, 1, "give / frame 0 - I,LQ;,N"), func(c *impl.Class) *int { return &c.Methods[0].Frames[0].Stack[1].Class }},
}

// What one part alone names is named, and what that names; the same said beside it is not.
func TestPackUsed(t *testing.T) {
	for _, n := range namers {
		c := classOf(n.src)
		if len(impl.PackUsed(c)) != len(c.Pool) {
			t.Errorf("%s: %v of %s", n.what, impl.PackUsed(c), poolWords(c.Pool))
		}
		// Another entry that says the same is named instead.
		own := *n.place(&c)
		e := c.Pool[own-1]
		c.Pool = append(c.Pool, impl.Const{Kind: impl.ConstName, Text: c.Pool[max(e.A, 1)-1].Text}, e)
		more := []int{len(c.Pool)}
		if e.Kind == impl.ConstClass {
			c.Pool[len(c.Pool)-1].A = len(c.Pool) - 1
			more = []int{len(c.Pool) - 1, len(c.Pool)}
		}
		*n.place(&c) = len(c.Pool)
		var want []int
		for place := range c.Pool {
			if place > 0 && place <= len(c.Pool)-2 && place != own && !(e.Kind == impl.ConstClass && place == e.A) {
				want = append(want, place)
			}
		}
		if got := impl.PackUsed(c); !slices.Equal(got, append(want, more...)) || impl.ClassCheck(c) != impl.FormFine {
			t.Errorf("%s: %v, wanted %v %v, of %s", n.what, got, want, more, poolWords(c.Pool))
		}
		checkPack(t, n.what, c)
	}
	// What stands behind each op that names something, and behind no other one.
	head := classOf("class M Obj 0\nmethod f ()V 1 0 8\n  give\n")
	for op := range impl.OpPrint + 1 {
		c := copied(head)
		c.Pool = append(c.Pool, poolOf("'Q c7 'x 'I p9,10 f8,11 '()V p9,13 m8,14 i8,14")...)
		num, want := 0, []int(nil)
		switch {
		case op == impl.OpNew || op == impl.OpCast || op == impl.OpIs:
			num, want = 8, []int{7, 8}
		case op >= impl.OpGet && op <= impl.OpPutAll:
			num, want = 12, []int{7, 8, 9, 10, 11, 12}
		case op >= impl.OpVirtual && op <= impl.OpStatic:
			num, want = 15, []int{7, 8, 9, 13, 14, 15}
		case op == impl.OpFace:
			num, want = 16, []int{7, 8, 9, 13, 14, 16}
		case op == impl.OpPush:
			num = 12
		case behind(op) == 1:
			num = 7
		}
		c.Methods[0].Code = codeOf([2]int{op, num})
		if got := impl.PackUsed(c); !slices.Equal(got, append([]int{1, 2, 3, 4, 5, 6}, want...)) {
			t.Errorf("%s: %v", opWords[op], got)
		}
		checkPack(t, opWords[op], c)
	}
}

// What only such name as nobody names is not named; a class that names nothing but itself.
func TestPackUnnamed(t *testing.T) {
	c := classOf("class A Obj 0\n")
	for _, more := range []string{"'A", "'Q", "c1", "'Q c5", "'x 'I p5,6", "'x 'I p5,6 'Q c8 f9,7", "f7,6 p8,9 c1 'x 'I", "'x '()V p5,6 m2,7 i2,7 i4,7", "'LA;", "'(LA;)V", "c3 c3 c1"} {
		x := copied(c)
		x.Pool = append(x.Pool, poolOf(more)...)
		if impl.ClassCheck(x) != impl.FormFine {
			t.Fatal(more, impl.PoolCheck(x.Pool))
		}
		if got := impl.PackUsed(x); !slices.Equal(got, []int{1, 2, 3, 4}) {
			t.Errorf("%s: %v", more, got)
		}
		if got := impl.PackOf(x); !same(got, c) {
			t.Errorf("%s: %s", more, poolWords(got.Pool))
		}
		checkPack(t, more, x)
	}
}

// packCases are pools of a class Name Super with a method `f ()V` that does `new` of the place that is told, and what they are packed to.
var packCases = []struct {
	what   string
	pool   string
	name   int
	super  int
	news   int
	want   string
	places string
}{
	{"nothing to do", "'A c1 'Obj c3 'f '()V 'Q c7", 2, 4, 8, "'A c1 'Obj c3 'f '()V 'Q c7", "2 4 8"},
	{"one that nobody names, ahead", "'z 'A c2 'Obj c4 'f '()V 'Q c8", 3, 5, 9, "'A c1 'Obj c3 'f '()V 'Q c7", "2 4 8"},
	{"in between, and behind", "'A 'Z c1 'Obj c2 c4 'f '()V 'Q c9 c9 'Z", 3, 6, 10, "'A c1 'Obj c3 'f '()V 'Q c7", "2 4 8"},
	{"the same name twice", "'A c1 'Obj c3 'f '()V 'A c7", 2, 4, 8, "'A c1 'Obj c3 'f '()V", "2 4 2"},
	{"the same class twice", "'A c1 'Obj c3 'f '()V c1", 2, 4, 7, "'A c1 'Obj c3 'f '()V", "2 4 2"},
	{"the first is not named, the second is", "'A c1 'Obj c3 'f '()V 'Q c7 c7", 2, 4, 9, "'A c1 'Obj c3 'f '()V 'Q c7", "2 4 8"},
	{"nor is its name", "'A c1 'Obj c3 'f '()V 'Q c7 'Q c9", 2, 4, 10, "'A c1 'Obj c3 'f '()V 'Q c7", "2 4 8"},
	{"the first ahead of its name", "c2 'A c2 'Obj c4 'f '()V c9 'Q c9 c9", 3, 5, 11, "c2 'A 'Obj c3 'f '()V c8 'Q", "1 4 7"},
	{"a name that stands behind", "c8 c9 'f '()V 'z 'z 'z 'A 'Obj", 1, 2, 1, "c5 c6 'f '()V 'A 'Obj", "1 2 1"},
	{"the first of three names", "'Q 'A c2 'Obj c4 'f '()V 'Q 'Q c9", 3, 5, 10, "'Q 'A c2 'Obj c4 'f '()V c1", "3 5 8"},
	{"a name that is a type, too", "'I 'I 'A c3 'Obj c5 'f '()V c2", 4, 6, 9, "'I 'A c2 'Obj c4 'f '()V c1", "3 5 8"},
	{"Super as it is named elsewhere", "'A c1 'Obj 'Obj c4 'f '()V c3", 2, 5, 8, "'A c1 'Obj c3 'f '()V", "2 4 4"},
}

func TestPackOf(t *testing.T) {
	for _, p := range packCases {
		pool := poolOf(p.pool)
		place := func(text string) int {
			return 1 + slices.IndexFunc(pool, func(e impl.Const) bool { return e.Text == text })
		}
		c := impl.Class{Pool: pool, Name: p.name, Super: p.super, Methods: []impl.Method{{Flags: 1, Name: place("f"), Desc: place("()V"), Deep: 1, Code: codeOf([2]int{impl.OpNew, p.news}, [2]int{impl.OpThrow, 0})}}}
		if code := impl.ClassCheck(c); code != impl.FormFine {
			t.Fatal(p.what, "ClassCheck is", code)
		}
		got := impl.PackOf(c)
		ops, _ := impl.OpsGet(got.Methods[0].Code)
		if words, places := poolWords(got.Pool), fmt.Sprint(got.Name, got.Super, ops[0].Num); words != p.want || places != p.places {
			t.Errorf("%s: %s and %s, wanted %s and %s", p.what, words, places, p.want, p.places)
		}
		checkPack(t, p.what, c)
	}
}

// Entries of several parts are the same once what they name is the same; of another kind, or of other parts, they are not.
func TestPackMembers(t *testing.T) {
	const head = "'A c1 'Obj c3 'f '()V "
	for _, c := range []struct {
		what string
		more string
		ops  []int
		want string
	}{
		{"all of it twice", "'x 'I p7,8 f2,9 'x 'I 'A c13 p11,12 f14,15", []int{16}, "'x 'I p7,8 f2,9"},
		{"both are named", "'x 'I p7,8 f2,9 'x 'I 'A c13 p11,12 f14,15", []int{10, 16}, "'x 'I p7,8 f2,9"},
		{"the pair twice", "'x 'I p7,8 p7,8 f2,10", []int{11}, "'x 'I p7,8 f2,9"},
		{"the pair's type twice", "'x 'I 'I p7,9 f2,10", []int{11}, "'x 'I p7,8 f2,9"},
		{"the class twice", "'x 'I p7,8 c1 f10,9", []int{11}, "'x 'I p7,8 f2,9"},
		{"one ahead that nobody names, of other entries", "f17,16 'y p8,10 'I 'x 'I p11,10 'A c14 p11,12 c1 f15,13", []int{18}, "f2,10 'I 'x p9,8"},
		{"another class", "'x 'I p7,8 f2,9 f4,9", []int{10, 11}, "'x 'I p7,8 f2,9 f4,9"},
		{"another name", "'x 'I 'y p7,8 p9,8 f2,10 f2,11", []int{12, 13}, "'x 'I 'y p7,8 p9,8 f2,10 f2,11"},
		{"another type", "'x 'I 'LA; p7,8 p7,9 f2,10 f2,11", []int{12, 13}, "'x 'I 'LA; p7,8 p7,9 f2,10 f2,11"},
		{"name and type are one text", "'I p7,7 'I p9,9 p7,9 f2,10 f2,11", []int{12, 13}, "'I p7,7 f2,8"},
	} {
		class := impl.Class{Pool: poolOf(head + c.more), Name: 2, Super: 4, Methods: []impl.Method{{Flags: 1, Name: 5, Desc: 6}}}
		var code [][2]int
		for _, num := range c.ops {
			code = append(code, [2]int{impl.OpGetAll, num})
		}
		class.Methods[0].Code = codeOf(code...)
		if form := impl.ClassCheck(class); form != impl.FormFine {
			t.Fatal(c.what, form, impl.PoolCheck(class.Pool))
		}
		if got := poolWords(impl.PackOf(class).Pool); got != head+c.want {
			t.Errorf("%s: %s, wanted %s", c.what, got, head+c.want)
		}
		checkPack(t, c.what, class)
	}
	// A method of a class and one of a face say the same but for their kind.
	class := impl.Class{Pool: poolOf(head + "'g p7,6 p7,6 i2,9 m2,9 i2,8 m2,8 m4,8"), Name: 2, Super: 4, Methods: []impl.Method{{Flags: 1, Name: 5, Desc: 6}}}
	class.Methods[0].Code = codeOf([2]int{impl.OpVirtual, 13}, [2]int{impl.OpFace, 12}, [2]int{impl.OpStatic, 11}, [2]int{impl.OpSpecial, 14})
	got := impl.PackOf(class)
	ops, _ := impl.OpsGet(got.Methods[0].Code)
	if words, nums := poolWords(got.Pool), fmt.Sprint(ops[0].Num, ops[1].Num, ops[2].Num, ops[3].Num); words != head+"'g p7,6 i2,8 m2,8 m4,8" || nums != "10 9 10 11" {
		t.Error(words, nums)
	}
	checkPack(t, "kinds", class)
}

// messed is a class that says the same with a pool in which entries stand twice, others are named by nobody, and all stand anywhere; as it is, if it would be too great.
func messed(d *dice, c impl.Class) impl.Class {
	pool := slices.Clone(c.Pool)
	like := func(place int) int {
		all := likeIn(pool, place)
		return all[d.below(len(all))]
	}
	for range d.below(impl.PoolMax - len(pool) + 1) {
		e := pool[d.below(len(pool))]
		if e.A > 0 {
			e.A = like(e.A)
		}
		if e.B > 0 {
			e.B = like(e.B)
		}
		if d.below(4) == 0 {
			e = impl.Const{Kind: impl.ConstName, Text: d.pick([]string{"Q", "x", "I", "LA;", "()V"})}
		}
		pool = append(pool, e)
	}
	order := randomOrder(d, len(pool))
	turned := make([]impl.Const, len(pool))
	for from, to := range order {
		turned[to] = pool[from]
	}
	out := renumbered(c, turned, func(place int) int { return order[like(place)-1] + 1 })
	if impl.ClassCheck(out) != impl.FormFine {
		return c
	}
	return out
}

// anyClass is a class that is mostly fine, of any sort.
func anyClass(d *dice) impl.Class {
	switch d.below(4) {
	case 0:
		return classOf(randomProof(d))
	case 1:
		return classOf(randomLines(d))
	case 2:
		return soundClass()
	}
	return randomClass(d)
}

// Promises 73 to 76, of classes that are made up.
func TestPromisePack(t *testing.T) {
	t.Parallel()
	fine, less := 0, 0
	for seed := range 2500 {
		d := newDice(seed)
		c := anyClass(d)
		if impl.ClassCheck(c) != impl.FormFine {
			wantUnpacked(t, fmt.Sprint("seed ", seed), c)
			continue
		}
		fine++
		if d.below(4) > 0 {
			c = messed(d, c)
		}
		checkPack(t, fmt.Sprint("seed ", seed), c)
		if len(impl.PackOf(c).Pool) < len(c.Pool) {
			less++
		}
		checkAdd(t, fmt.Sprint("seed ", seed), c, randomEntry(d, c))
	}
	if fine < 1500 || less < 1000 {
		t.Error("too few", fine, less)
	}
}

// randomEntry is an entry that may be there, be one more, or be none.
func randomEntry(d *dice, c impl.Class) impl.Const {
	place := func() int { return d.below(len(c.Pool)+3) - 1 }
	switch d.below(3) {
	case 0:
		return c.Pool[d.below(len(c.Pool))]
	case 1:
		return impl.Const{Kind: impl.ConstName, Text: d.pick([]string{"Q", "x", "I", "LA;", "()V", "", "9", "LA", "new", "(I"})}
	}
	return impl.Const{Kind: d.below(8), A: place(), B: place() * d.below(2)}
}

// checkAdd holds an entry that is added against promise 76.
func checkAdd(t *testing.T, what string, c impl.Class, e impl.Const) {
	t.Helper()
	x, place := impl.PackAdd(c, e)
	pool := append(slices.Clone(c.Pool), e)
	at := slices.Index(pool, e) + 1
	if at == len(pool) && impl.PoolCheck(pool) != 0 {
		at = 0
	}
	if place != at {
		t.Fatalf("%s: %d, wanted %d, of %v in %s", what, place, at, e, poolWords(c.Pool))
	}
	want := copied(c)
	if at == len(pool) {
		want.Pool = pool
	}
	if !same(x, want) || place > 0 && x.Pool[place-1] != e {
		t.Fatalf("%s: %v in %s", what, e, poolWords(x.Pool))
	}
	if impl.ClassCheck(x) != impl.FormFine {
		return
	}
	again, there := impl.PackAdd(x, e)
	if place > 0 && (!same(again, x) || there != place) || !same(impl.PackOf(x), impl.PackOf(c)) || len(impl.PackUsed(x)) != len(impl.PackUsed(c)) {
		t.Fatal(what, e, "again", there)
	}
}

// An entry that is there, one more, one that is none, and one whose parts are none.
func TestPackAdd(t *testing.T) {
	c := classOf("class A Obj 0\nfield x I 0\n")
	for _, n := range []struct {
		e    impl.Const
		want int
	}{
		{impl.Const{Kind: impl.ConstName, Text: "A"}, 1}, {impl.Const{Kind: impl.ConstClass, A: 1}, 2}, {impl.Const{Kind: impl.ConstClass, A: 3}, 4}, {impl.Const{Kind: impl.ConstName, Text: "I"}, 6},
		{impl.Const{Kind: impl.ConstName, Text: "B"}, 7}, {impl.Const{Kind: impl.ConstName, Text: "LA;"}, 7}, {impl.Const{Kind: impl.ConstName, Text: "(IIII)V"}, 7},
		{impl.Const{Kind: impl.ConstClass, A: 5}, 7}, {impl.Const{Kind: impl.ConstClass, A: 6}, 7}, {impl.Const{Kind: impl.ConstPair, A: 5, B: 6}, 7}, {impl.Const{Kind: impl.ConstPair, A: 6, B: 6}, 7},
		{impl.Const{}, 0}, {impl.Const{Kind: 7}, 0}, {impl.Const{Kind: -1}, 0}, {impl.Const{Kind: impl.ConstName}, 0}, {impl.Const{Kind: impl.ConstName, Text: "9"}, 0}, {impl.Const{Kind: impl.ConstName, Text: "abcdefghi"}, 0}, {impl.Const{Kind: impl.ConstName, Text: strings.Repeat("a", 70000)}, 0},
		{impl.Const{Kind: impl.ConstName, Text: "A", A: 1}, 0}, {impl.Const{Kind: impl.ConstName, Text: "B", B: 1}, 0}, {impl.Const{Kind: impl.ConstClass, A: 1, Text: "A"}, 0}, {impl.Const{Kind: impl.ConstClass, A: 1, B: 1}, 0},
		{impl.Const{Kind: impl.ConstClass}, 0}, {impl.Const{Kind: impl.ConstClass, A: -1}, 0}, {impl.Const{Kind: impl.ConstClass, A: 2}, 0}, {impl.Const{Kind: impl.ConstClass, A: 7}, 0}, {impl.Const{Kind: impl.ConstClass, A: 8}, 0}, {impl.Const{Kind: impl.ConstClass, A: math.MaxInt}, 0}, {impl.Const{Kind: impl.ConstClass, A: math.MinInt}, 0},
		{impl.Const{Kind: impl.ConstPair, A: 5, B: 5}, 0}, {impl.Const{Kind: impl.ConstPair, A: 5}, 0}, {impl.Const{Kind: impl.ConstPair, A: 7, B: 6}, 0}, {impl.Const{Kind: impl.ConstField, A: 2, B: 6}, 0}, {impl.Const{Kind: impl.ConstField, A: 2, B: 7}, 0}, {impl.Const{Kind: impl.ConstMethod, A: 2, B: 2}, 0}, {impl.Const{Kind: impl.ConstFace, A: 7, B: 7}, 0},
	} {
		if _, at := impl.PackAdd(c, n.e); at != n.want {
			t.Errorf("%.40v: %d, wanted %d", n.e, at, n.want)
		}
		checkAdd(t, fmt.Sprintf("%.40v", n.e), c, n.e)
	}
	// Of two that are there it is the first; one that says the same of other parts is one more.
	c.Pool = append(c.Pool, poolOf("'A c7 'x 'I p9,10 p5,6 f2,11 c7 p9,10 f2,11")...)
	for _, n := range []struct {
		e    string
		want int
	}{{"'A", 1}, {"'x", 5}, {"c1", 2}, {"c7", 8}, {"p9,10", 11}, {"p5,6", 12}, {"f2,11", 13}, {"p5,10", 17}, {"p9,6", 17}, {"f2,12", 17}, {"f8,11", 17}, {"f4,11", 17}, {"m2,11", 0}, {"i2,11", 0}, {"f11,2", 0}, {"p1,17", 0}} {
		e := poolOf(n.e)[0]
		if _, at := impl.PackAdd(c, e); at != n.want {
			t.Errorf("%s: %d, wanted %d", n.e, at, n.want)
		}
		checkAdd(t, n.e, c, e)
	}
}

// A pool that is full, and a class that is.
func TestPackAddFull(t *testing.T) {
	c := classOf("class A Obj 0\n")
	for len(c.Pool) < impl.PoolMax {
		e := impl.Const{Kind: impl.ConstName, Text: fmt.Sprint("n", len(c.Pool))}
		checkAdd(t, e.Text, c, e)
		x, at := impl.PackAdd(c, e)
		if at != len(c.Pool)+1 {
			t.Fatal(at)
		}
		c = x
	}
	for _, e := range []impl.Const{{Kind: impl.ConstName, Text: "n60"}, {Kind: impl.ConstClass, A: 5}, {}} {
		if x, at := impl.PackAdd(c, e); at != 0 || !same(x, c) {
			t.Error(e, at)
		}
	}
	for i, e := range c.Pool {
		if x, at := impl.PackAdd(c, e); at != i+1 || !same(x, c) {
			t.Error(e, at)
		}
	}
	if got := impl.PackOf(c); len(got.Pool) != 4 {
		t.Error(poolWords(got.Pool))
	}
	// The pool alone says whether there is room: a class of too many bytes is given out, and is not fine.
	for n := impl.FileMax - 4; n <= impl.FileMax; n++ {
		c := longClass(n)
		x, at := impl.PackAdd(c, impl.Const{Kind: impl.ConstName, Text: "ab"})
		want := impl.FormFine
		if n+4 > impl.FileMax {
			want = impl.FormFile
		}
		if at != len(c.Pool)+1 || impl.ClassCheck(x) != want || impl.ClassCheck(c) != impl.FormFine {
			t.Error(n, at, impl.ClassCheck(x))
		}
		checkAdd(t, fmt.Sprint("bytes ", n), c, impl.Const{Kind: impl.ConstName, Text: "ab"})
	}
}

// wantUnpacked wants the fixed answers.
func wantUnpacked(t *testing.T, what string, c impl.Class) {
	t.Helper()
	if got := impl.PackUsed(c); len(got) > 0 {
		t.Error(what, "PackUsed", got)
	}
	for place := range 4 {
		if got := impl.PackText(c, place); got != "" {
			t.Error(what, "PackText", got)
		}
	}
	if got := impl.PackOf(c); !same(got, impl.Class{}) {
		t.Error(what, "PackOf", got)
	}
	for _, e := range []impl.Const{{Kind: impl.ConstName, Text: "A"}, {Kind: impl.ConstName, Text: "zz"}, {}} {
		if got, at := impl.PackAdd(c, e); !same(got, impl.Class{}) || at != 0 {
			t.Error(what, "PackAdd", got, at)
		}
	}
}

// A class with something wrong has nothing named, says nothing and is packed to nothing.
func TestPackNotOk(t *testing.T) {
	wantUnpacked(t, "nothing", impl.Class{})
	for _, faults := range []struct {
		sound func() impl.Class
		list  []formFault
	}{{soundClass, classFaults()}, {soundFace, faceFaults()}} {
		checkPack(t, "sound", faults.sound())
		for _, f := range faults.list {
			c := faults.sound()
			f.turn(&c)
			if f.want != impl.FormFine {
				wantUnpacked(t, f.name, c)
			} else {
				checkPack(t, f.name, c)
			}
		}
	}
}

// messedStart is a start with pools in which entries stand twice, and anywhere.
func messedStart(d *dice, s impl.Start) impl.Start {
	s = ownStart(s)
	for i, l := range s.Loaders {
		for k, f := range l.Files {
			if c, ok := impl.FileGet(f.Text); ok && impl.ClassCheck(c) == impl.FormFine {
				s.Loaders[i].Files[k].Text = impl.FilePut(messed(d, c))
			}
		}
	}
	return s
}

// Promise 77.
func TestPromisePackRuns(t *testing.T) {
	t.Parallel()
	ends, turned := map[int]int{}, 0
	for seed := range 700 {
		d := newDice(seed)
		s := randomStart(d)
		if d.below(4) == 0 {
			s = anyStart(t, d)
		}
		s = messedStart(d, s)
		packed := s
		packed.Loaders = impl.PackAll(s.Loaders)
		a, b := impl.RunAll(s), impl.RunAll(packed)
		if !same(a, b) {
			t.Fatalf("seed %d: %s, packed %s", seed, tellAnswer(a), tellAnswer(b))
		}
		ends[a.End]++
		if !same(s.Loaders, packed.Loaders) {
			turned++
		}
		if why := brokenPromise(packed, b); why != "" {
			t.Fatal(seed, why)
		}
	}
	for end := impl.EndFine; end <= impl.EndConfused; end++ {
		if ends[end] < 5 {
			t.Error("too few", ends)
		}
	}
	if turned < 400 {
		t.Error("too few", turned)
	}
}

// Promise 78: a file is packed, if it is a class, by whatever name; all else stays as it is.
func TestPackAll(t *testing.T) {
	c := classOf(knowBy("()V", 1, 1, "give"))
	c.Pool = append(c.Pool, poolOf("'M c5 'M c7")...)
	text, packed := impl.FilePut(c), textOf(t, knowBy("()V", 1, 1, "give"))
	bad := copied(c)
	bad.Flags = 8
	list := []impl.Loader{
		{Files: []impl.File{{Name: "M", Text: text}, {Name: "Q", Text: text}, {Name: "Z", Text: "no"}, {Name: "E"}, {Name: "T", Text: packed}}, Parent: 1},
		{Files: []impl.File{{Name: "M", Text: text + "x"}, {Name: "N", Text: text[:len(text)-1]}, {Name: "B", Text: impl.FilePut(bad)}}, Ways: []impl.Way{{Name: "M", To: 0}, {Name: "Z", To: 2}}, Parent: -1},
		{Parent: 2},
	}
	want := append([]impl.Loader{}, list...)
	want[0].Files = append([]impl.File{}, list[0].Files...)
	want[0].Files[0].Text, want[0].Files[1].Text = packed, packed
	if got := impl.PackAll(list); !same(got, want) || text == packed || impl.FilePut(bad) == "" || impl.ClassCheck(c) != impl.FormFine {
		t.Errorf("%+v, wanted %+v", got, want)
	}
	for _, f := range loaderFaults {
		if got := impl.PackAll(f.turn(soundLoaders(t))); len(got) > 0 {
			t.Error(f.name, got)
		}
	}
	if got := impl.PackAll([]impl.Loader{{Parent: -1}}); !same(got, []impl.Loader{{Parent: -1}}) {
		t.Error(got)
	}
	for seed := range 300 {
		d := newDice(seed)
		list := messedStart(d, impl.Start{Loaders: randomLoaders(t, d)}).Loaders
		for i := range list {
			for k := range list[i].Files {
				if d.below(8) == 0 {
					list[i].Files[k].Text = d.text(d.below(40))
				}
			}
		}
		got, want := impl.PackAll(list), ownStart(impl.Start{Loaders: list}).Loaders
		for i, l := range want {
			for k, f := range l.Files {
				if c, ok := impl.FileGet(f.Text); ok && impl.ClassCheck(c) == impl.FormFine {
					want[i].Files[k].Text = impl.FilePut(impl.PackOf(c))
				}
			}
		}
		if !same(got, want) || !same(impl.PackAll(got), got) || !impl.WorldOk(impl.WorldNew(got)) {
			t.Fatal(seed)
		}
	}
}
