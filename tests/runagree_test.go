package tests

import (
	"slices"
	"strings"
	"testing"

	"loop.example/stowage/impl"
)

// agreeStart has M, of loader 1, that hands an X over where an A is wanted, to T of loader 0, and to U of loader 2, that is below T. A is a class that all three would make, or a face.
func agreeStart(t *testing.T, ops string, flags string, picks ...impl.Pick) impl.Start {
	t.Helper()
	taken := func(name string, mem string, locals string) string {
		return "method " + name + " (LA;)V " + mem + " 0 " + locals + "\ngive\n"
	}
	made := func(name string, mem string, locals string) string {
		return "method " + name + " ()LA; " + mem + " 1 " + locals + "\nnew X\ngiveref\n"
	}
	a := "class A Obj " + flags + "\n"
	zero := loaderOf(t, -1, a+"class X Obj 0\nclass T Obj 0\nfield r LA; 0\nfield q LA; 1\n"+taken("s", "1", "1")+made("m", "1", "0")+taken("v", "0", "2")+made("w", "0", "1")+taken("p", "0", "2"))
	one := loaderOf(t, 0, mainOf(3, 1, lines(ops))+a, impl.Way{Name: "U", To: 2})
	two := loaderOf(t, 0, "class U T 0\n"+taken("v", "0", "2")+made("w", "0", "1")+a)
	s := startOf(zero, one, two)
	s.Loader, s.Picks = 1, picks
	return s
}

// Who knows A decides whether an X agrees with it. In each case the first pick comes ahead of the first step.
func TestRunAgrees(t *testing.T) {
	for _, c := range []struct {
		ops string
		// asked are the loaders as which it must agree.
		asked []int
		fine  string
		steps string
		at    int
	}{
		{"new T / new X / put T r LA; / give", []int{1, 0}, "fine 4", "confused 3", 0},
		{"new X / putall T q LA; / give", []int{1, 0}, "fine 3", "confused 2", 0},
		{"new T / dup / new X / put T r LA; / get T r LA; / pop / give", []int{1}, "fine 7", "confused 5", 4},
		{"new X / putall T q LA; / getall T q LA; / pop / give", []int{1}, "fine 5", "confused 3", 2},
		{"new X / static T s (LA;)V / give", []int{1, 0}, "fine 4", "confused 2", 0},
		{"new T / new X / virtual T v (LA;)V / give", []int{1, 0}, "fine 5", "confused 3", 0},
		{"new U / new X / virtual T v (LA;)V / give", []int{1, 2}, "fine 5", "confused 3", 0},
		{"new U / new X / virtual U v (LA;)V / give", []int{1, 2}, "fine 5", "confused 3", 0},
		{"new U / new X / virtual U p (LA;)V / give", []int{1, 0}, "fine 5", "confused 3", 0},
		{"new U / new X / special T v (LA;)V / give", []int{1, 0}, "fine 5", "confused 3", 0},
		{"new U / new X / special U v (LA;)V / give", []int{1, 2}, "fine 5", "confused 3", 0},
		{"static T m ()LA; / pop / give", []int{0, 1}, "fine 5", "confused 3", 0},
		{"new T / virtual T w ()LA; / pop / give", []int{0, 1}, "fine 6", "confused 4", 0},
		{"new U / virtual T w ()LA; / pop / give", []int{2, 1}, "fine 6", "confused 4", 0},
		{"new U / special T w ()LA; / pop / give", []int{0, 1}, "fine 6", "confused 4", 0},
	} {
		wantRun(t, c.ops, agreeStart(t, c.ops, "0"), c.fine)
		for loader := range 3 {
			pick := impl.Pick{At: c.at, Kind: impl.PickLoad, Loader: loader, Name: "A"}
			want := c.fine
			for _, asked := range c.asked {
				if asked == loader {
					want = c.steps
				}
			}
			wantRun(t, c.ops, agreeStart(t, c.ops, "0", pick), want)
			// A face asks for nothing.
			wantRun(t, c.ops, agreeStart(t, c.ops, "5", pick), c.fine)
		}
	}
}

// No object agrees with all, and what is below agrees.
func TestRunAgreesBelow(t *testing.T) {
	for _, c := range []runCase{
		{"null / static T s (LA;)V / give", "fine 4"},
		{"new A / static T s (LA;)V / give", "fine 4"},
		{"new X / static T s (LObj;)V / give", "fault 8 T 2"},
		{"new T / null / put T r LA; / give", "fine 4"},
		{"new T / new A / put T r LA; / give", "fine 4"},
	} {
		for _, loader := range []int{0, 2} {
			// It is made by the loader 0, so that all know one class.
			s := agreeStart(t, c.ops, "0", impl.Pick{Kind: impl.PickLoad, Loader: 1, Name: "A"}, impl.Pick{Kind: impl.PickLoad, Loader: loader, Name: "A"})
			for i := range s.Loaders[1:] {
				s.Loaders[i+1].Ways = append([]impl.Way{{Name: "A", To: 0}}, s.Loaders[i+1].Ways...)
			}
			wantRun(t, c.ops, s, c.want)
		}
	}
}

// An object must be below the class of what was found.
func TestRunObjectBelow(t *testing.T) {
	src := "class T Obj 0\nfield n I 0\nfield r LT; 0\nmethod v ()V 0 0 1\ngive\nmethod x ()V 2 0 1\ngive\nclass V T 0\nmethod y ()V 0 1 1\nrefload 0\nspecial T v ()V\ngive\nclass X Obj 0\n"
	for _, c := range []runCase{
		{"new X / get T n I / print / give", "confused 2"},
		{"new T / get T n I / print / give", "fine 4: 0"},
		{"new V / get T n I / print / give", "fine 4: 0"},
		{"new T / get V n I / print / give", "fine 4: 0"},
		{"new X / push 1 / put T n I / give", "confused 3"},
		{"new T / push 1 / put V n I / give", "fine 4"},
		{"new X / virtual T v ()V / give", "confused 2"},
		{"new T / virtual V v ()V / give", "fine 4"},
		{"new T / virtual V y ()V / give", "confused 2"},
		{"new X / special T v ()V / give", "confused 2"},
		{"new V / special T v ()V / give", "fine 4"},
		{"new T / special V y ()V / give", "confused 2"},
		// No object is looked at behind all that is taken, and that must agree.
		{"null / get T n I / print / give", "thrown Err 2"},
		{"push 1 / get T n I / print / give", "confused 2"},
		{"null / null / put T n I / give", "confused 3"},
		{"null / push 1 / put T r LT; / give", "confused 3"},
		{"null / new X / put T r LT; / give", "confused 3"},
		{"null / new V / put T r LT; / give", "thrown Err 3"},
		{"null / null / put T r LT; / give", "thrown Err 3"},
		{"new T / new X / put T r LT; / give", "confused 3"},
		{"null / special T v ()V / give", "thrown Err 2"},
		{"null / push 1 / virtual T w (LT;)V / give", "fault 8 T 3"},
	} {
		s := startOf(loaderOf(t, -1, mainOf(3, 1, lines(c.ops))+src))
		wantRun(t, c.ops, s, c.want)
	}
	// What is found may be private: then it is that, and the object must be below it, too.
	own := "class M Obj 0\nmethod main ()V 1 1 0\nnew N\nvirtual N x ()V\ngive\nmethod x ()V 2 0 1\ngive\nclass N Obj 0\n"
	wantBoth(t, "no such method", startOf(loaderOf(t, -1, own)), "fault 8 N 2")
	own = "class M Obj 0\nmethod main ()V 1 1 0\nnew N\nvirtual M x ()V\ngive\nmethod x ()V 2 0 1\ngive\nclass N Obj 0\n"
	wantRefused(t, "not below", startOf(loaderOf(t, -1, own)), "confused 2")
}

// What is taken must agree ahead of a look at the object, as far as it is known by then who asks for it: the own loader, whose the field is, and, of OpSpecial, whose the method is.
func TestRunAgreesAheadOfObject(t *testing.T) {
	for _, c := range []struct {
		ops string
		// asked are the loaders as which it must agree.
		asked []int
		fine  string
	}{
		{"null / new X / put T r LA; / give", []int{0, 1}, "thrown Err 3"},
		{"null / new X / put U r LA; / give", []int{0, 1}, "thrown Err 3"},
		{"null / new X / virtual T v (LA;)V / give", []int{1}, "thrown Err 3"},
		{"null / new X / virtual U v (LA;)V / give", []int{1}, "thrown Err 3"},
		{"null / new X / special T v (LA;)V / give", []int{0, 1}, "thrown Err 3"},
		{"null / new X / special U v (LA;)V / give", []int{1, 2}, "thrown Err 3"},
		{"null / new X / face F v (LA;)V / give", []int{1}, "thrown Err 3"},
		{"new X / new X / face F v (LA;)V / give", []int{1}, "fault 4 X 3"},
		{"new X / null / face F v (LA;)V / give", nil, "fault 4 X 3"},
		{"null / null / put T r LA; / give", nil, "thrown Err 3"},
		{"null / null / virtual T v (LA;)V / give", nil, "thrown Err 3"},
		{"null / null / special T v (LA;)V / give", nil, "thrown Err 3"},
		{"null / null / face F v (LA;)V / give", nil, "thrown Err 3"},
		// As the own loader knows it also ahead of a method that is not there.
		{"new K / new X / virtual H v (LA;)V / give", []int{1}, "fault 8 M 3"},
		{"new K / new X / face F v (LA;)V / give", []int{1}, "fault 8 M 3"},
		{"new K / new X / special H v (LA;)V / give", []int{0, 1}, "fault 8 M 3"},
	} {
		for loader := -1; loader < 3; loader++ {
			want, s := c.fine, agreeStart(t, c.ops, "0")
			if slices.Contains(c.asked, loader) {
				want = "confused 3"
			}
			if loader >= 0 {
				s.Picks = []impl.Pick{{Kind: impl.PickLoad, Loader: loader, Name: "A"}}
			}
			faces := "class F Obj 5\n" + asks("v", "(LA;)V") + "class H Obj 4\nface F\n" + asks("v", "(LA;)V")
			s.Loaders[0].Files = append(s.Loaders[0].Files, loaderOf(t, -1, faces).Files...)
			s.Loaders[1].Files = append(s.Loaders[1].Files, fileOf(t, "class K H 0\n"))
			wantRun(t, c.ops, s, want)
			// Without room for what it would throw it is confused likewise.
			if s.Room = strings.Count(c.ops, "new"); want == "confused 3" {
				wantRun(t, c.ops, s, want)
			} else if strings.HasPrefix(want, "thrown") {
				wantRun(t, c.ops, s, "room Err 3")
			}
		}
	}
	ops := "new X / new X / virtual T v (LA;)V / give"
	wantRun(t, ops, agreeStart(t, ops, "0"), "confused 3")
}

// OpSpecial takes what was found, whatever the object's class has.
func TestRunSpecial(t *testing.T) {
	src := "class A Obj 4\nmethod f ()I 0 1 1\npush 1\ngiveint\n" + asks("h", "()I") + "class B A 0\nmethod f ()I 0 1 1\npush 2\ngiveint\nmethod h ()I 0 1 1\npush 3\ngiveint\n"
	m := func(ops string) impl.Start {
		return startOf(loaderOf(t, -1, "class M B 0\nmethod main ()V 1 1 0\nnew M\nvirtual M go ()V\ngive\nmethod f ()I 0 1 1\npush 4\ngiveint\nmethod go ()V 0 1 1\n"+lines(ops)+"\ngive\n"+src))
	}
	wantBoth(t, "own", m("refload 0 / special M f ()I / print"), "fine 9: 4")
	wantBoth(t, "above", m("refload 0 / special B f ()I / print"), "fine 9: 2")
	wantBoth(t, "above that", m("refload 0 / special A f ()I / print"), "fine 9: 1")
	wantBoth(t, "found above", m("refload 0 / special M h ()I / print"), "fine 9: 3")
	wantBoth(t, "the row", m("refload 0 / virtual A f ()I / print"), "fine 9: 4")
	wantBoth(t, "abstract", m("refload 0 / special A h ()I / print"), "fault 8 M 4")
	wantBoth(t, "abstract, but with a row", m("refload 0 / virtual A h ()I / print"), "fine 9: 3")
	wantBoth(t, "no object", m("null / special A f ()I / print"), "thrown Err 4")
}

// Two loaders that mean two classes by one name: what is handed over as Obj is not what the other one means.
func TestRunTwoClasses(t *testing.T) {
	zero := "class A Obj 0\nmethod get ()I 0 1 1\npush 7\ngiveint\nclass U Obj 0\nfield a LA; 1\nfield o LObj; 1\nmethod make ()LObj; 1 1 0\nnew A\ngiveref\nmethod take (LA;)V 1 0 1\ngive\nmethod any (LObj;)I 1 1 1\nrefload 0\nis A\ngiveint\n"
	own := "class A Obj 0\nmethod get ()I 0 1 1\npush 8\ngiveint\n"
	run := func(ops string, src string, want string, ways ...impl.Way) {
		t.Helper()
		wantBoth(t, ops, startOf(loaderOf(t, -1, zero), loaderOf(t, 0, mainOf(2, 1, lines(ops))+src, ways...)), want)
	}
	way := impl.Way{Name: "A", To: 0}
	for _, c := range []struct {
		ops, one, two string
	}{
		{"static U make ()LObj; / is A / print / give", "fine 6: 1", "fine 6: 0"},
		{"static U make ()LObj; / cast A / virtual A get ()I / print / give", "fine 9: 7", "thrown Err 4"},
		{"new A / virtual A get ()I / print / give", "fine 6: 7", "fine 6: 8"},
		{"new A / static U any (LObj;)I / print / give", "fine 7: 1", "fine 7: 0"},
		{"new A / putall U o LObj; / getall U o LObj; / is A / print / give", "fine 6: 1", "fine 6: 1"},
		// By its own name it is bound ahead.
		{"new A / static U take (LA;)V / give", "fine 4", "fine 4"},
		{"static U make ()LObj; / pop / new A / static U take (LA;)V / give", "fine 8", "fault 5 A 6"},
		{"new A / static U make ()LObj; / pop / static U take (LA;)V / give", "fine 8", "fault 5 A 6"},
		{"new A / putall U a LA; / static U make ()LObj; / pop / give", "fine 7", "fault 5 A 4"},
		{"getall U a LA; / pop / static U make ()LObj; / pop / new A / give", "fine 8", "fault 5 A 7"},
		{"getall U a LA; / pop / new A / pop / static U make ()LObj; / pop / give", "fine 9", "fault 5 A 6"},
	} {
		run(c.ops, "", c.one)
		run(c.ops, own, c.two)
		run(c.ops, own, c.one, way)
	}
}

// A run may come to more bonds than a world that is handed in may have: no chapter ends it by that.
func TestRunManyBonds(t *testing.T) {
	src, ops := "class U Obj 0\n", ""
	for i := range 5 {
		letters := string(rune('A'+i)) + string(rune('a'+i))
		desc := "("
		for n := range impl.ParamMax {
			desc += "L" + letters + string(rune('0'+n)) + ";"
		}
		desc += ")L" + letters + "9;"
		src += "method s" + string(rune('0'+i)) + " " + desc + " 1 1 4\nnull\ngiveref\n"
		ops += "null\nnull\nnull\nnull\nstatic U s" + string(rune('0'+i)) + " " + desc + "\npop\n"
	}
	other := loaderOf(t, -1, src)
	class := func(name string, main string) impl.File {
		c := classOf("class " + name + " Obj 0\nmethod main ()V 1 4 0\n" + ops + main + "give\n")
		return impl.File{Name: name, Text: impl.FilePut(c)}
	}
	// Two loaders call loader 0 by 25 names each; that is 25 bonds. A third kind of names comes by V.
	s := startOf(other, impl.Loader{Parent: 0, Files: []impl.File{class("M", "")}})
	wantBoth(t, "25 bonds", s, "fine 41")
	if r := impl.RunTo(s, 41); len(r.World.Bonds) != 25 || bonds(r.World)[:14] != "Aa0:01=-1 Aa1:" {
		t.Error(bonds(r.World))
	}
	more := ""
	v := "class V Obj 0\n"
	for i := range 4 {
		name := string(rune('0' + i))
		desc := "(LP" + name + ";LQ" + name + ";LR" + name + ";LS" + name + ";)LT" + name + ";"
		v += "method v" + name + " " + desc + " 1 1 4\nnull\ngiveref\n"
		more += "null\nnull\nnull\nnull\nstatic V v" + name + " " + desc + "\npop\n"
	}
	s.Loaders[0].Files = append(s.Loaders[0].Files, fileOf(t, v))
	n := classOf("class N Obj 0\nmethod n ()V 1 4 0\n" + more + "give\n")
	s.Loaders[1].Files = []impl.File{class("M", "static N n ()V\n"), {Name: "N", Text: impl.FilePut(n)}}
	wantBoth(t, "45 bonds", s, "fine 75")
	if r := impl.RunTo(s, 75); len(r.World.Bonds) != 45 {
		t.Error(bonds(r.World))
	}
}
