package tests

import (
	"fmt"
	"slices"
	"testing"

	"loop.example/stowage/impl"
)

// foundStart is a start whose classes have the frames that are found for them, as far as any are, and how many have.
func foundStart(s impl.Start) (impl.Start, int) {
	out, many := ownStart(s), 0
	for loader, l := range s.Loaders {
		for at, f := range l.Files {
			c, ok := impl.FrameFind(s.Loaders, loader, f.Name)
			if ok && impl.PathMaker(s.Loaders, loader, f.Name) == loader {
				out.Loaders[loader].Files[at].Text = impl.FilePut(c)
				many++
			}
		}
	}
	return out, many
}

// freeStart is a start some of whose methods go on at other places where as many values stand, whatever these are, as far as there are frames for that.
func freeStart(d *dice) impl.Start {
	s := ownStart(randomStart(d))
	for loader, l := range s.Loaders {
		for at, f := range l.Files {
			c, _ := impl.FileGet(f.Text)
			for i := range c.Methods {
				turnGoes(d, c, i)
			}
			l.Files[at].Text = impl.FilePut(c)
			if _, ok := impl.FrameFind(s.Loaders, loader, f.Name); !ok {
				l.Files[at].Text = f.Text
			}
		}
	}
	return s
}

// turnGoes lets some ops of a method go on elsewhere.
func turnGoes(d *dice, c impl.Class, at int) {
	m := &c.Methods[at]
	deeps := impl.KnowDeep(c, at)
	ops, _ := impl.OpsGet(m.Code)
	for i := range ops {
		if ops[i].Op < impl.OpIfZero || ops[i].Op > impl.OpGo || len(deeps) == 0 || d.below(3) > 0 {
			continue
		}
		was := slices.IndexFunc(ops, func(in impl.Ins) bool { return in.At == ops[i].Num })
		if to := d.below(len(ops)); deeps[to] == deeps[was] {
			ops[i].Num = ops[to].At
		}
	}
	m.Code = impl.OpsPut(ops)
}

// Promises 22, 23, 25, 27 to 32, 64, 66, 67 and 77, of starts whose frames are found; at some of them 24, 26, 33 and 34 at each step.
func TestPromiseWhole(t *testing.T) {
	t.Parallel()
	ends, found, mended := map[int]int{}, 0, 0
	for seed := range 500 {
		d := newDice(seed)
		s := freeStart(d)
		s.Prove = true
		before := impl.RunAll(s)
		s, many := foundStart(s)
		found += many
		a := impl.RunAll(s)
		ends[a.End]++
		if before.Fault.Code == impl.FaultProof && a.Fault.Code != impl.FaultProof {
			mended++
		}
		what := fmt.Sprint("seed ", seed)
		if why := brokenPromise(s, a); why != "" {
			t.Fatalf("%s: %s: %s", what, why, tellAnswer(a))
		}
		if seed%5 == 0 {
			checkSteps(t, what, s)
		}
		checkTrace(t, what, s, impl.TraceOf(s))
		less := s
		less.Fuel = d.below(s.Fuel + 1)
		if lines, first := impl.TraceOf(s), impl.TraceOf(less); !slices.Equal(first, lines[:min(less.Fuel, len(lines))]) {
			t.Fatal(what, len(first), less.Fuel, len(lines))
		}
		packed, plain := s, paddedStart(d, s)
		packed.Loaders = impl.PackAll(s.Loaders)
		if b := impl.RunAll(packed); !same(a, b) {
			t.Fatalf("%s: %s, packed %s", what, tellAnswer(a), tellAnswer(b))
		}
		plain.Picks = nil
		tidy := plain
		tidy.Loaders = impl.TidyAll(plain.Loaders)
		a, b := impl.RunAll(plain), impl.RunAll(tidy)
		if a.End != impl.EndFault && a.End != impl.EndFuel && (a.End != b.End || a.Name != b.Name || !same(a.Out, b.Out) || b.Steps > a.Steps) {
			t.Fatalf("%s: %s, tidied %s", what, tellAnswer(a), tellAnswer(b))
		}
	}
	for _, end := range []int{impl.EndFine, impl.EndThrown, impl.EndFault, impl.EndFuel, impl.EndRoom, impl.EndDeep} {
		if ends[end] < 8 {
			t.Error("too few", ends)
		}
	}
	if found < 1200 || mended < 20 {
		t.Error("too few", found, mended)
	}
}

// Promise 82, and promises 79 to 81 of classes that other loaders make.
func TestPromiseFoundRuns(t *testing.T) {
	t.Parallel()
	ends, found := map[int]int{}, 0
	for seed := range 500 {
		d := newDice(seed)
		s := freeStart(d)
		if d.below(4) == 0 {
			s = anyStart(t, d)
		}
		s.Prove = false
		a := impl.RunAll(s)
		for loader := range s.Loaders {
			maker := impl.PathMaker(s.Loaders, loader, s.Name)
			c, ok := impl.FrameFind(s.Loaders, loader, s.Name)
			if !ok {
				continue
			}
			found++
			x := ownStart(s)
			at := slices.IndexFunc(s.Loaders[maker].Files, func(f impl.File) bool { return f.Name == s.Name })
			own, _ := impl.FileGet(s.Loaders[maker].Files[at].Text)
			checkFound(t, fmt.Sprint("seed ", seed), s.Loaders, loader, s.Name, own, c)
			x.Loaders[maker].Files[at].Text = impl.FilePut(c)
			if b := impl.RunAll(x); !same(a, b) {
				t.Fatalf("seed %d: %s, with frames %s", seed, tellAnswer(a), tellAnswer(b))
			}
			ends[a.End]++
		}
	}
	for _, end := range []int{impl.EndFine, impl.EndThrown, impl.EndFault, impl.EndFuel, impl.EndRoom, impl.EndDeep} {
		if ends[end] < 5 {
			t.Error("too few", ends)
		}
	}
	if found < 150 {
		t.Error("too few", found)
	}
}
