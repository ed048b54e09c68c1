package tests

import (
	"fmt"
	"math"
	"slices"
	"strings"
	"testing"

	"loop.example/stowage/impl"
)

// sketch is loaders, told as `PARENT FILES WAYS` with `/` between: names with `,` between, a way as NAME>TO, `.` of none; texts of files do not matter to a path.
func sketch(src string) []impl.Loader {
	var out []impl.Loader
	for _, part := range strings.Split(src, "/") {
		words := strings.Fields(part)
		l := impl.Loader{Parent: number(words[0])}
		for _, name := range strings.Split(words[1], ",") {
			if name != "." {
				l.Files = append(l.Files, impl.File{Name: name, Text: "text"})
			}
		}
		for _, way := range strings.Split(words[2], ",") {
			if name, to, ok := strings.Cut(way, ">"); ok {
				l.Ways = append(l.Ways, impl.Way{Name: name, To: number(to)})
			}
		}
		out = append(out, l)
	}
	return out
}

// pathCases are loaders, a name, and the path of each loader, the last one being the maker; `-` of none.
var pathCases = []struct {
	what  string
	list  string
	name  string
	paths string
}{
	{"a file of its own", "-1 A .", "A", "0"},
	{"another name", "-1 A .", "B", "-"},
	{"how a name begins", "-1 AA .", "A", "-"},
	{"a longer name", "-1 A .", "AA", "-"},
	{"the longest name", "-1 abcdefgh .", "abcdefgh", "0"},
	{"nothing at all", "-1 . .", "A", "-"},
	{"the last of its files", "-1 A,B,C,D,E .", "E", "0"},
	{"a parent", "-1 A . / 0 . .", "A", "0 10"},
	{"a parent, whose place is higher", "1 . . / -1 A .", "A", "01 1"},
	{"parents, one behind the other", "-1 A . / 0 . . / 1 . .", "A", "0 10 210"},
	{"a file ahead of the parent", "-1 A . / 0 A . / 1 . .", "A", "0 1 21"},
	{"a parent is asked behind, for another name", "-1 A,B . / 0 A .", "B", "0 10"},
	{"its own parent", "0 . .", "A", "-"},
	{"its own parent, that has a file", "0 A .", "A", "0"},
	{"parents that go round", "1 . . / 0 . .", "A", "- -"},
	{"parents that go round, and a file", "1 A . / 0 . .", "A", "0 10"},
	{"three parents that go round", "1 . . / 2 . . / 0 . .", "A", "- - -"},
	{"a parent that goes round by itself", "1 . . / 1 . .", "A", "- -"},
	{"a way", "-1 A . / -1 . A>0", "A", "0 10"},
	{"a way of another name", "-1 A . / -1 . B>0", "A", "0 -"},
	{"the last of its ways", "-1 D . / -1 . A>1,B>1,C>1,D>0", "D", "0 10"},
	{"a way ahead of a file", "-1 A . / -1 A A>0", "A", "0 10"},
	{"a way ahead of the parent", "-1 A . / 0 . A>2 / -1 A .", "A", "0 12 2"},
	{"a way ahead of a file and of the parent", "-1 A . / 0 A A>2 / 1 A .", "A", "0 12 2"},
	{"a way to its own parent", "-1 A . / 0 A A>0", "A", "0 10"},
	{"a way to oneself", "-1 . A>0", "A", "-"},
	{"a way to oneself, ahead of a file", "-1 A A>0 / 0 . .", "A", "- -"},
	{"a way to oneself, ahead of a parent", "-1 A . / 0 . A>1", "A", "0 -"},
	{"a way to oneself of another name", "-1 A B>0", "A", "0"},
	{"ways that go round", "-1 A A>1 / -1 A A>0", "A", "- -"},
	{"three ways that go round", "-1 . A>1 / -1 A A>2 / -1 . A>0", "A", "- - -"},
	{"ways that go round, behind a parent", "1 . . / -1 A A>2 / -1 A A>1", "A", "- - -"},
	{"a way and a parent that go round", "1 . . / -1 A A>0", "A", "- -"},
	{"a way to one that asks its parent", "-1 A . / 0 . . / -1 . A>1", "A", "0 10 210"},
	{"a way, another way, a file", "-1 A . / -1 . A>0 / -1 A A>1", "A", "0 10 210"},
	{"a way to one who has none", "-1 . . / -1 A A>0", "A", "- -"},
	{"a way to one whose parent has none", "-1 . . / 0 . . / 0 A A>1", "A", "- - -"},
	{"a way back to who was asked first, of another name", "-1 A B>1 / 0 B .", "B", "01 1"},
	{"ways of two names", "-1 A,B A>1 / -1 A,B B>0", "A", "01 1"},
	{"ways of two names, the other one", "-1 A,B A>1 / -1 A,B B>0", "B", "0 10"},
	{"Obj is asked of nobody", "-1 . Obj>0", "Obj", "-"},
	{"Err is asked of nobody", "-1 . . / -1 . Err>0", "Err", "- -"},
}

func TestPathOf(t *testing.T) {
	for _, c := range pathCases {
		list := sketch(c.list)
		paths := strings.Fields(c.paths)
		if len(paths) != len(list) || impl.WorldNew(list).Classes == nil {
			t.Fatal(c.what)
		}
		for loader, want := range paths {
			got, maker := impl.PathOf(list, loader, c.name), impl.PathMaker(list, loader, c.name)
			told, last := strings.ReplaceAll(toldOut(got...), " ", ""), -1
			if want == "-" {
				want = ""
			} else {
				last = number(want[len(want)-1:])
			}
			if told != want || maker != last {
				t.Errorf("%s: PathOf of %d: %v, wanted %s; PathMaker %d", c.what, loader, got, want, maker)
			}
		}
	}
}

func TestPathSame(t *testing.T) {
	both := 0
	for _, c := range pathCases {
		list := sketch(c.list)
		paths := strings.Fields(c.paths)
		for a, one := range paths {
			for b, other := range paths {
				want := one != "-" && other != "-" && one[len(one)-1] == other[len(other)-1]
				if got := impl.PathSame(list, a, b, c.name); got != want {
					t.Errorf("%s: PathSame of %d and %d is %v", c.what, a, b, got)
				}
				if want && a != b {
					both++
				}
			}
		}
	}
	if both < 10 {
		t.Error("too few", both)
	}
}

// wantNoPath asks all that is asked of paths, where there is none.
func wantNoPath(t *testing.T, what string, list []impl.Loader, loader int, name string) {
	t.Helper()
	if got, maker := impl.PathOf(list, loader, name), impl.PathMaker(list, loader, name); len(got) > 0 || maker != -1 {
		t.Errorf("%s: PathOf of %d %q: %v, PathMaker %d", what, loader, name, got, maker)
	}
	for other := range 3 {
		if impl.PathSame(list, loader, other, name) || impl.PathSame(list, other, loader, name) {
			t.Errorf("%s: PathSame of %d, %d and %q", what, loader, other, name)
		}
	}
	if impl.PathSame(list, loader, loader, name) {
		t.Errorf("%s: PathSame of %d, itself and %q", what, loader, name)
	}
}

// notAsked are texts that are no names, and the names of what is always there.
func notAsked() []string {
	return append([]string{"Obj", "Err", " A", "\xff"}, noNames...)
}

func TestPathNotOk(t *testing.T) {
	for _, f := range loaderFaults {
		list := f.turn(soundLoaders(t))
		for loader := range 4 {
			for _, name := range []string{"A", "B", "C", "E"} {
				wantNoPath(t, f.name, list, loader, name)
			}
		}
	}
	list := soundLoaders(t)
	if !same(impl.PathOf(list, 1, "E"), []int{1, 0}) || impl.PathMaker(list, 1, "B") != 0 || !impl.PathSame(list, 0, 1, "E") {
		t.Error("loaders that are ok")
	}
	for _, loader := range []int{-1, -2, 3, 4, math.MinInt, math.MaxInt} {
		wantNoPath(t, "a loader that is not there", list, loader, "A")
		wantNoPath(t, "a loader that is not there", sketch("-1 A ."), loader, "A")
	}
	for _, name := range notAsked() {
		for loader := range list {
			wantNoPath(t, "no name", list, loader, name)
		}
	}
	wantNoPath(t, "nothing", nil, 0, "A")
}

// Bytes of files do not matter to a path.
func TestPathOfAnyFile(t *testing.T) {
	for _, text := range []string{"", "x", strings.Repeat("x", impl.FileMax), textOf(t, "class B Obj 0"), textOf(t, srcA)} {
		list := []impl.Loader{{Files: []impl.File{{Name: "A", Text: text}}, Parent: -1}, {Parent: 0}}
		if !same(impl.PathOf(list, 1, "A"), []int{1, 0}) || !impl.PathSame(list, 0, 1, "A") {
			t.Errorf("%q: %v", text, impl.PathOf(list, 1, "A"))
		}
	}
	list := []impl.Loader{{Files: []impl.File{{Name: "A", Text: strings.Repeat("x", impl.FileMax+1)}}, Parent: -1}, {Parent: 0}}
	wantNoPath(t, "one byte too many", list, 1, "A")
}

// pathIn is a path, told a second time, backwards: who makes a name, who asks them, and so on.
func pathIn(list []impl.Loader, loader int, name string) []int {
	next := func(l impl.Loader) (int, bool) {
		for _, w := range l.Ways {
			if w.Name == name {
				return w.To, false
			}
		}
		return l.Parent, slices.ContainsFunc(l.Files, func(f impl.File) bool { return f.Name == name })
	}
	paths := map[int][]int{}
	for range list {
		for at, l := range list {
			to, makes := next(l)
			if makes {
				paths[at] = []int{at}
			} else if rest := paths[to]; rest != nil {
				paths[at] = append([]int{at}, rest...)
			}
		}
	}
	return paths[loader]
}

// Promise 54.
func TestPromisePaths(t *testing.T) {
	t.Parallel()
	many := map[int]int{}
	for seed := range 3000 {
		d := newDice(seed)
		list := randomLoaders(t, d)
		loader, name := d.below(len(list)), d.pick([]string{"A", "B", "C", "D", "E", "Q"})
		path, maker := impl.PathOf(list, loader, name), impl.PathMaker(list, loader, name)
		if want := pathIn(list, loader, name); !slices.Equal(path, want) {
			t.Fatal(seed, loader, name, path, want)
		}
		many[len(path)]++
		if len(path) == 0 {
			if maker != -1 {
				t.Fatal(seed, maker)
			}
			continue
		}
		if path[0] != loader || !same(firsts(path), path) || maker != path[len(path)-1] {
			t.Fatal(seed, loader, name, path, maker)
		}
		for i, at := range path {
			if !slices.Equal(impl.PathOf(list, at, name), path[i:]) {
				t.Fatal(seed, path, at, impl.PathOf(list, at, name))
			}
		}
	}
	if many[0] < 100 || many[1] < 100 || many[2] < 100 || many[3] < 20 {
		t.Error("too few", many)
	}
}

// Promise 55.
func TestPromisePathsBring(t *testing.T) {
	t.Parallel()
	codes := map[int]int{}
	for seed := range 3000 {
		d := newDice(seed)
		list := randomLoaders(t, d)
		loader, name := d.below(len(list)), d.pick([]string{"A", "B", "C", "D", "E", "Q"})
		path, maker := impl.PathOf(list, loader, name), impl.PathMaker(list, loader, name)
		w, class, fault := impl.WorldLoad(impl.WorldNew(list), loader, name)
		if maker == -1 {
			codes[fault.Code]++
			if fault.Code != impl.FaultNone && fault.Code != impl.FaultCircle || fault.Name != name {
				t.Fatal(seed, loader, name, fault)
			}
			continue
		}
		if fault.Code != impl.FaultFine {
			continue
		}
		codes[impl.FaultFine]++
		if w.Classes[class].Loader != maker {
			t.Fatal(seed, loader, name, maker, names(w))
		}
		for _, at := range path {
			if knownIn(w, at, name) != class {
				t.Fatal(seed, at, name, path, known(w))
			}
		}
	}
	for _, code := range []int{impl.FaultFine, impl.FaultNone, impl.FaultCircle} {
		if codes[code] < 50 {
			t.Error("too few", codes)
		}
	}
}

// Promise 56.
func TestPromisePathsBound(t *testing.T) {
	t.Parallel()
	answers := map[string]int{}
	for seed := range 4000 {
		d := newDice(seed)
		list := randomLoaders(t, d)
		if len(list) < 2 {
			continue
		}
		a := d.below(len(list))
		b := (a + 1 + d.below(len(list)-1)) % len(list)
		name := d.pick([]string{"A", "B", "C", "D", "E"})
		is := impl.PathSame(list, a, b, name)
		if is != impl.PathSame(list, b, a, name) {
			t.Fatal(seed, a, b, name)
		}
		_, _, one := impl.WorldLoad(impl.WorldNew(list), a, name)
		_, _, other := impl.WorldLoad(impl.WorldNew(list), b, name)
		if one.Code+other.Code != 0 {
			if is && one.Code*other.Code == 0 {
				t.Fatal(seed, a, b, name, one, other)
			}
			continue
		}
		w := bound(t, impl.WorldNew(list), a, b, name)
		w, _, one = impl.WorldLoad(w, a, name)
		_, _, other = impl.WorldLoad(w, b, name)
		if fine := one.Code+other.Code == 0; fine != is || !fine && one.Code != impl.FaultBond && other.Code != impl.FaultBond {
			t.Fatal(seed, a, b, name, is, one, other)
		}
		answers[fmt.Sprint(is)]++
	}
	if answers["true"] < 100 || answers["false"] < 100 {
		t.Error("too few", answers)
	}
}
