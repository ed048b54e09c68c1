package tests

import (
	"fmt"
	"math"
	"slices"
	"strings"
	"testing"

	"loop.example/stowage/impl"
)

// deepBy is M with a method of ops, told with ` / ` between, that may hold so many values.
func deepBy(deep int, body string) string {
	return fmt.Sprint("class M Obj 0\nmethod m ()V 1 ", deep, " 2\n", lines(body), "\n")
}

// wantDeeps asks how many values stand ahead of each op of the first method; `none` is wanted where nothing is told.
func wantDeeps(t *testing.T, what string, src string, want string) {
	t.Helper()
	c := classOf(src)
	if code := impl.ClassCheck(c); code != impl.FormFine {
		t.Fatal(what, "ClassCheck is", code)
	}
	got := toldOut(impl.KnowDeep(c, 0)...)
	if got == "" {
		got = "none"
	}
	if got != want {
		t.Errorf("%s: %s, wanted %s", what, got, want)
	}
}

// deepOps are ops, how many values each takes, and how many it puts.
var deepOps = []struct {
	op    string
	takes int
	puts  int
}{
	{"nop", 0, 0}, {"push 7", 0, 1}, {"null", 0, 1}, {"load 0", 0, 1}, {"store 0", 1, 0}, {"refload 1", 0, 1}, {"refstore 1", 1, 0},
	{"pop", 1, 0}, {"dup", 1, 2}, {"swap", 2, 2}, {"add", 2, 1}, {"sub", 2, 1}, {"mul", 2, 1}, {"div", 2, 1},
	{"ifzero 0", 1, 0}, {"ifneg 0", 1, 0}, {"ifnull 0", 1, 0}, {"ifsame 0", 2, 0}, {"go 0", 0, 0},
	{"new X", 0, 1}, {"get X f I", 1, 1}, {"get X f LX;", 1, 1}, {"put X f I", 2, 0}, {"put X f LX;", 2, 0}, {"getall X f I", 0, 1}, {"getall X f LX;", 0, 1}, {"putall X f I", 1, 0}, {"putall X f LX;", 1, 0},
	{"virtual X f ()V", 1, 0}, {"virtual X f ()I", 1, 1}, {"virtual X f (ILX;)LX;", 3, 1}, {"virtual X f (IIII)V", 5, 0},
	{"special X f ()V", 1, 0}, {"special X f ()LX;", 1, 1}, {"special X f (ILX;)I", 3, 1},
	{"static X f ()V", 0, 0}, {"static X f ()I", 0, 1}, {"static X f (ILX;)LX;", 2, 1}, {"static X f (IIII)V", 4, 0},
	{"face X f ()V", 1, 0}, {"face X f ()I", 1, 1}, {"face X f (LX;)LX;", 2, 1},
	{"cast X", 1, 1}, {"is X", 1, 1}, {"giveint", 1, 0}, {"giveref", 1, 0}, {"give", 0, 0}, {"throw", 1, 0}, {"print", 1, 0},
}

// Each op with as many values as it takes, with more, and with one less; it leaves what it puts, and never more than Deep.
func TestDeepOps(t *testing.T) {
	seen := map[string]bool{}
	for _, o := range deepOps {
		word := strings.Fields(o.op)[0]
		seen[word] = true
		goes := strings.HasPrefix(word, "if") || word == "go"
		stops := slices.Contains([]string{"go", "giveint", "giveref", "give", "throw"}, word)
		for many := range 7 {
			op := o.op
			if goes {
				op = word + " e"
			}
			body := strings.Repeat("push 1 / ", many) + op + " / nop / e: / give"
			left := many - o.takes + o.puts
			want := ""
			for n := range many + 1 {
				want += fmt.Sprint(n, " ")
			}
			switch {
			case many < o.takes:
				want = "none"
			case word == "go":
				want += fmt.Sprint("-1 ", left)
			case stops:
				want += "-1 -1"
			default:
				want += fmt.Sprint(left, " ", left)
			}
			most := max(many, left)
			wantDeeps(t, fmt.Sprint(op, " with ", many), deepBy(most, body), want)
			if most > 0 {
				wantDeeps(t, fmt.Sprint(op, " with ", many, ", too many"), deepBy(most-1, body), "none")
			}
			if most < impl.SlotMax {
				wantDeeps(t, fmt.Sprint(op, " with ", many, ", and room"), deepBy(most+1, body), want)
			}
		}
	}
	for _, word := range opWords {
		if !seen[word] {
			t.Error("no case of", word)
		}
	}
}

// What a method gives back does not matter to the ops that end it.
func TestDeepGives(t *testing.T) {
	for _, desc := range []string{"()V", "()I", "()LX;", "(ILX;)V"} {
		for op, takes := range map[string]int{"giveint": 1, "giveref": 1, "give": 0, "throw": 1} {
			for many := range 3 {
				want := strings.Join([]string{"0", "1", "2"}[:many+1], " ")
				if many < takes {
					want = "none"
				}
				wantDeeps(t, desc+" "+op, fmt.Sprint("class M Obj 0\nmethod m ", desc, " 0 2 3\n", strings.Repeat("push 1\n", many), op, "\n"), want)
			}
		}
	}
}

// deepCases are methods, how many values they may hold, and how many stand ahead of each op.
var deepCases = []struct {
	what string
	deep int
	body string
	want string
}{
	{"one op", 0, "give", "0"},
	{"what is come to by itself", 0, "f: / go f", "0"},
	{"one that does nothing, last", 0, "give / nop", "0 -1"},
	{"behind the last op", 0, "nop", "none"},
	{"behind the last op, with a value", 1, "push 1", "none"},
	{"behind the last op, by one way", 1, "f: / push 1 / ifzero f", "none"},
	{"behind the last op, as nothing comes to it", 1, "give / push 1", "0 -1"},
	{"behind the last op that is gone on to", 1, "go e / give / e: / nop", "none"},

	{"two ways, one number", 2, "push 1 / push 1 / ifzero e / pop / push 1 / e: / give", "0 1 2 1 0 1"},
	{"two ways, two numbers", 2, "push 1 / push 1 / ifzero e / pop / e: / give", "none"},
	{"two ways, two numbers, the other one less", 2, "push 1 / ifzero e / push 1 / e: / give", "none"},
	{"two ways that go on to one place", 2, "push 1 / ifzero a / push 1 / go e / a: / push 2 / e: / give", "0 1 0 1 0 1"},
	{"two ways that go on to one place with two numbers", 2, "push 1 / ifzero a / push 1 / go e / a: / push 2 / push 3 / e: / give", "none"},
	{"an op that goes on to the next one", 1, "push 1 / ifzero e / e: / give", "0 1 0"},
	{"back, with one number", 2, "push 9 / f: / push 1 / sub / dup / ifneg f / give", "0 1 2 1 2 1"},
	{"back, with one more", 8, "f: / push 1 / go f", "none"},
	{"back, with one less", 8, "push 1 / f: / pop / go f", "none"},
	{"back to the first op", 2, "f: / push 1 / dup / add / pop / go f", "0 1 2 1 0"},
	{"back to the first op, with a value", 2, "f: / push 1 / dup / ifzero f / give", "none"},
	{"back from where nothing comes to", 2, "f: / give / push 1 / go f", "0 -1 -1"},
	{"far ahead, and back again", 1, "go e / f: / pop / give / e: / push 1 / go f", "0 1 0 0 1"},
	{"three ways that come to one place one behind the other", 1, "go c / a: / give / b: / go a / c: / go b", "0 0 0 0"},
	{"ops that nothing comes to", 1, "give / pop / swap / push 1 / push 2 / go e / e: / add", "0 -1 -1 -1 -1 -1 -1"},
	{"behind what throws", 1, "null / throw / print / give", "0 1 -1 -1"},
	{"behind go", 1, "go e / print / e: / give", "0 -1 0"},
	{"as many as may be", 8, strings.Repeat("push 1 / ", 8) + strings.Repeat("pop / ", 8) + "give", "0 1 2 3 4 5 6 7 8 7 6 5 4 3 2 1 0"},
	{"one more than may be", 8, strings.Repeat("push 1 / ", 9) + strings.Repeat("pop / ", 9) + "give", "none"},
	{"too few at the end of one way", 1, "push 1 / ifzero e / give / e: / pop / give", "none"},
	{"too many at the end of one way", 1, "push 1 / ifzero e / give / e: / push 1 / dup / give", "none"},

	// Frames tell nothing, right or wrong.
	{"a frame with more", 2, "nop / f: / nop / give / frame f -,- I,I", "0 0 0"},
	{"a frame where nothing comes to", 2, "give / f: / pop / give / frame f -,- I", "0 -1 -1"},
	{"none where one goes on", 2, "push 1 / ifzero e / nop / e: / give", "0 1 0 0"},

	{"a trap", 1, "f: / nop / e: / give / h: / pop / give / trap f e h Err", "0 0 1 0"},
	{"a trap of any", 1, "f: / nop / e: / give / h: / pop / give / trap f e h -", "0 0 1 0"},
	{"a trap of some values", 3, "push 1 / push 1 / push 1 / f: / pop / e: / give / h: / pop / give / trap f e h Err", "0 1 2 3 2 1 0"},
	{"a trap that covers all", 1, "f: / push 1 / pop / give / h: / pop / give / trap f end h Err", "0 1 0 1 0"},
	{"a trap that covers all but where it goes on", 1, "f: / push 1 / pop / give / h: / pop / give / trap f h h Err", "0 1 0 1 0"},
	{"a trap that covers the one behind it", 2, "f: / give / h: / throw / trap f end h Err", "0 1"},
	{"a trap that covers one alone, behind it", 2, "nop / f: / give / h: / throw / trap f h h Err", "0 0 1"},
	{"a trap to one that is come to with one value", 1, "push 1 / h: / pop / give / trap 0 h h Err", "0 1 0"},
	{"a trap to one that is come to with none", 1, "h: / nop / f: / give / trap f end h Err", "none"},
	{"a trap to one that is come to with two", 2, "push 1 / push 1 / h: / pop / pop / give / trap 0 h h Err", "none"},
	{"two traps to one place", 1, "f: / nop / e: / give / h: / pop / give / trap f e h Err / trap e h h -", "0 0 1 0"},
	{"two traps to two places", 1, "f: / nop / e: / give / h: / pop / give / k: / throw / trap f e h Err / trap f e k -", "0 0 1 0 1"},
	{"a trap of a trap", 1, "f: / give / h: / pop / g: / give / k: / throw / trap f h h Err / trap h g k Err", "0 1 0 1"},
	{"a trap where nothing comes to", 1, "give / f: / nop / h: / throw / trap f h h Err", "0 -1 -1"},
	{"a trap's beginning", 1, "go f / f: / nop / e: / go e / h: / throw / trap f e h Err", "0 0 0 1"},
	{"a trap's end", 1, "go e / f: / nop / e: / give / h: / throw / trap f e h Err", "0 -1 0 -1"},
	{"ahead of a trap", 1, "nop / go e / f: / nop / e: / give / h: / throw / trap f e h Err", "0 0 -1 0 -1"},
	{"a trap back to the first op", 1, "h: / nop / give / trap 1 end h Err", "none"},
	{"no room for what a trap catches", 0, "f: / nop / e: / give / h: / give / trap f e h Err", "none"},
	{"no room, but nothing comes to what it covers", 0, "give / f: / nop / h: / give / trap f h h Err", "0 -1 -1"},
	{"no room, and a trap of the last op", 0, "nop / f: / give / trap f end 0 -", "none"},
}

func TestDeepWays(t *testing.T) {
	for _, c := range deepCases {
		wantDeeps(t, c.what, deepBy(c.deep, c.body), c.want)
	}
}

// Each method by its place; nothing of one without a body, of one that is not there, and of a class with something wrong.
func TestDeepNotOk(t *testing.T) {
	c := classOf("class M Obj 4\n" + asks("a", "()V") + "method b ()V 1 1 0\nnull\nthrow\n" + asks("c", "()V") + "method d ()V 0 0 1\ngive\n")
	for at, want := range []string{"", "0 1", "", "0", "", ""} {
		if got := toldOut(impl.KnowDeep(c, at)...); got != want {
			t.Error(at, got)
		}
	}
	for _, at := range []int{-1, -2, 4, 5, math.MinInt, math.MaxInt} {
		if got := impl.KnowDeep(c, at); len(got) > 0 {
			t.Error(at, got)
		}
	}
	// In soundClass the last method has one op, that ends it.
	if got := toldOut(impl.KnowDeep(soundClass(), 2)...); got != "0" {
		t.Fatal(got)
	}
	for _, f := range classFaults() {
		c := soundClass()
		f.turn(&c)
		if got := impl.KnowDeep(c, 2); len(got) > 0 && f.want != impl.FormFine {
			t.Errorf("%s: %v", f.name, got)
		}
	}
	face := soundFace()
	if got := toldOut(impl.KnowDeep(face, 2)...); got != "0" {
		t.Fatal(got)
	}
	for _, f := range faceFaults() {
		c := soundFace()
		f.turn(&c)
		if got := impl.KnowDeep(c, 2); len(got) > 0 && f.want != impl.FormFine {
			t.Errorf("a face, %s: %v", f.name, got)
		}
	}
	if got := impl.KnowDeep(impl.Class{}, 0); len(got) > 0 {
		t.Error(got)
	}
}

// deepIn tells how many values stand ahead of each op a second time: it goes through all that could be, one op and one number after the other.
func deepIn(c impl.Class, at int) []int {
	m := c.Methods[at]
	ops, _ := impl.OpsGet(m.Code)
	places := map[int]int{}
	for i, in := range ops {
		places[in.At] = i
	}
	text := func(place int) string { return c.Pool[place-1].Text }
	found := map[[2]int]bool{{0, 0}: true}
	for grows := true; grows; {
		grows = false
		for one := range found {
			in, many := ops[one[0]], one[1]
			takes, puts := takesIn(in, func() string { return text(c.Pool[c.Pool[in.Num-1].B-1].B) })
			if many < takes || many-takes+puts > m.Deep {
				return nil
			}
			next := map[int]int{}
			for _, t := range m.Traps {
				if t.From <= in.At && t.To > in.At {
					if m.Deep == 0 {
						return nil
					}
					next[places[t.At]] = 1
				}
			}
			on := []int{}
			if word := opWords[in.Op]; strings.HasPrefix(word, "if") || word == "go" {
				on = append(on, places[in.Num])
			}
			if word := opWords[in.Op]; word != "go" && word != "throw" && !strings.HasPrefix(word, "give") {
				on = append(on, one[0]+1)
			}
			for _, i := range on {
				if other, ok := next[i]; i == len(ops) || ok && other != many-takes+puts {
					return nil
				}
				next[i] = many - takes + puts
			}
			for i, left := range next {
				if state := [2]int{i, left}; !found[state] {
					found[state], grows = true, true
				}
			}
			if grows {
				break
			}
		}
	}
	out := slices.Repeat([]int{-1}, len(ops))
	for one := range found {
		if out[one[0]] != -1 {
			return nil
		}
		out[one[0]] = one[1]
	}
	return out
}

// takesIn is how many values an op takes and puts, by deepOps, of calls by what the method takes and gives back.
func takesIn(in impl.Ins, desc func() string) (int, int) {
	word := opWords[in.Op]
	at := slices.IndexFunc(deepOps, func(o struct {
		op    string
		takes int
		puts  int
	}) bool {
		return strings.Fields(o.op)[0] == word
	})
	takes, puts := deepOps[at].takes, deepOps[at].puts
	if in.Op >= impl.OpVirtual && in.Op <= impl.OpFace {
		types, back, _ := impl.DescOf(desc())
		takes, puts = len(types)+1, 1
		if word == "static" {
			takes--
		}
		if back == "V" {
			puts = 0
		}
	}
	return takes, puts
}

// Methods of any ops, and such that mostly can be proved, held against a second telling, and against promise 62.
func TestPromiseDeep(t *testing.T) {
	t.Parallel()
	seen := map[string]int{}
	for seed := range 12000 {
		d := newDice(seed)
		c := randomClass(d)
		switch seed % 3 {
		case 0:
			c = classOf(randomProof(d))
		case 1:
			c = classOf(randomDeep(d))
		}
		for at := range c.Methods {
			if seed%3 != 1 || d.below(5) == 0 {
				turnDeep(d, &c.Methods[at])
			}
		}
		if impl.ClassCheck(c) != impl.FormFine {
			continue
		}
		for at, m := range c.Methods {
			got := impl.KnowDeep(c, at)
			if m.Flags&impl.MemAbstract != 0 {
				if len(got) > 0 {
					t.Fatal(seed, at, got)
				}
				continue
			}
			if want := deepIn(c, at); !slices.Equal(got, want) {
				t.Fatalf("seed %d, method %d: %v, wanted %v, of\n%s", seed, at, got, want, linesOf(c))
			}
			checkDeeps(t, fmt.Sprint("seed ", seed, " method ", at), c, at, got)
			seen[fmt.Sprint(len(got) > 0, slices.Contains(got, -1), len(m.Traps) > 0)]++
		}
	}
	for _, what := range []string{"true false true", "true false false", "true true true", "true true false", "false false true", "false false false"} {
		if seen[what] < 50 {
			t.Error("too few", what, seen)
		}
	}
}

// randomDeep is M with a method whose ops mostly find as many values as they take, with places and traps where as many stand.
func randomDeep(d *dice) string {
	deep, many := 1+d.below(4), 2+d.below(14)
	var body, marks []string
	ahead := []int{}
	now := 0
	at := func(values int) string {
		var fit []string
		for i, n := range ahead {
			if n == values || d.below(30) == 0 {
				fit = append(fit, marks[i])
			}
		}
		return d.pick(append(fit, "x"))
	}
	for i := range many {
		marks, ahead = append(marks, fmt.Sprint("m", i)), append(ahead, now)
		body = append(body, marks[i]+":")
		for {
			o := deepOps[d.below(len(deepOps))]
			word, left := strings.Fields(o.op)[0], now-o.takes+o.puts
			if d.below(60) > 0 && (now < o.takes || left > deep) || strings.HasPrefix(word, "give") && d.below(3) > 0 {
				continue
			}
			if strings.HasPrefix(word, "if") || word == "go" {
				o.op = word + " " + at(left)
			}
			body = append(body, o.op)
			now = max(left, 0)
			if word == "go" || word == "throw" || strings.HasPrefix(word, "give") {
				now = d.below(2)
			}
			break
		}
	}
	out := deepBy(deep, strings.Join(append(body, "x:", "give"), " / "))
	for range d.below(impl.TrapMax + 1) {
		from := d.below(many)
		out += fmt.Sprintln("trap", marks[from], append(marks, "x", "end")[from+1+d.below(many+1-from)], at(1), "Err")
	}
	return out
}

// turnDeep lets a method hold more or fewer values, now and then.
func turnDeep(d *dice, m *impl.Method) {
	if m.Flags&impl.MemAbstract == 0 && d.below(3) == 0 {
		m.Deep = d.below(impl.SlotMax + 1)
	}
	if m.Flags&impl.MemAbstract == 0 && d.below(2) == 0 {
		m.Frames = nil
	}
}

// checkDeeps is promise 62, of a method with a body of which something is told.
func checkDeeps(t *testing.T, what string, c impl.Class, at int, deeps []int) {
	t.Helper()
	if len(deeps) == 0 {
		return
	}
	ops, _ := impl.OpsGet(c.Methods[at].Code)
	if deeps[0] != 0 || len(deeps) != len(ops) || slices.Min(deeps) < -1 || slices.Max(deeps) > c.Methods[at].Deep {
		t.Fatal(what, deeps)
	}
	if tidy := impl.KnowDeep(impl.TidyOf(c), at); len(tidy) > len(deeps) {
		t.Fatal(what, deeps, tidy)
	}
}
