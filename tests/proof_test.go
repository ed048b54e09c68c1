package tests

import (
	"fmt"
	"strings"
	"testing"

	"loop.example/stowage/impl"
)

// proofWorld is a world in which M, that is told by lines, can be proved: A, B below it, C, and the faces F and G can be brought; X, Y and Z cannot.
func proofWorld(t *testing.T, src string) impl.World {
	t.Helper()
	own := loaderOf(t, 1, src)
	own.Files = append(own.Files, fileOf(t, "class A Obj 0"), fileOf(t, "class B A 0"), fileOf(t, "class F Obj 5"), fileOf(t, "class N M 0"))
	return worldOf(t, own, loaderOf(t, -1, "class C Obj 0\nclass G Obj 5"))
}

// wantProof proves M; wanted is the name that cannot be brought, `no`, if the proof refuses it, and else what it brings, in order, `.`, if nothing.
func wantProof(t *testing.T, what string, src string, want string) {
	t.Helper()
	w, class := load(t, proofWorld(t, src), 0, "M")
	x, fault := impl.WorldLink(w, class)
	got := strings.TrimSpace(strings.TrimPrefix(names(x), names(w)))
	switch {
	case fault.Code == impl.FaultProof && fault.Name == "M":
		got = "no"
	case fault.Code == impl.FaultNone:
		got = fault.Name
	case fault.Code != impl.FaultFine:
		got = fmt.Sprint(fault)
	case got == "":
		got = "."
	}
	if got != want {
		t.Errorf("%s: %s, wanted %s, of\n%s", what, got, want, src)
	}
	if fault.Code != impl.FaultFine && !same(x, w) {
		t.Errorf("%s: the world is not as it was", what)
	}
}

// stepOf is M with a method in which ops stand between two frames, each told as `LOCALS STACK`.
func stepOf(desc string, deep int, ops string, from string, to string) string {
	locals := strings.Split(strings.Fields(from)[0], ",")
	none := strings.TrimSuffix(strings.Repeat("-,", len(locals)), ",")
	return fmt.Sprint("class M A 0\nmethod m ", desc, " 1 ", deep, " ", len(locals), "\ns:\ngo s\np:\n", ops, "\ne:\ngo e\nt:\ngo t\n",
		"frame s ", none, " .\nframe p ", from, "\nframe e ", to, "\nframe t ", to, "\n")
}

// wantStep proves a method in which ops lead from one frame to another.
func wantStep(t *testing.T, ops string, from string, to string, want string) {
	t.Helper()
	wantProof(t, ops+" from "+from+" to "+to, stepOf("()V", 4, ops, from, to), want)
}

func isMissing(name string) bool {
	return name == "X" || name == "Y" || name == "Z"
}

// fitsIn is what wantProof wants, if what is wanted in a place is fitted by what is there.
func fitsIn(want string, got string) string {
	above := map[string]string{"B": "A", "M": "A", "N": "M", "A": "Obj", "C": "Obj", "Err": "Obj"}
	if want == "-" || want == got {
		return "."
	}
	if want[0] != 'L' || got[0] == 'I' || got[0] == '-' {
		return "no"
	}
	if got == "N" || want == "LObj;" {
		return "."
	}
	want, got = strings.Trim(want, "L;"), strings.Trim(got, "L;")
	if isMissing(want) {
		return want
	}
	if want == "F" || want == "G" {
		return brings(want)
	}
	if isMissing(got) {
		return got
	}
	for up := got; up != "" && got != "F" && got != "G"; up = above[up] {
		if up == want {
			return brings(want, got)
		}
	}
	return "no"
}

// brings is what is brought behind M and A.
func brings(list ...string) string {
	loaders := map[string]string{"B": "0:", "F": "0:", "N": "0:", "C": "1:", "G": "1:"}
	var out []string
	for _, name := range list {
		if loaders[name] != "" {
			out = append(out, loaders[name]+name)
		}
	}
	if len(out) == 0 {
		return "."
	}
	return strings.Join(out, " ")
}

var allKinds = []string{"-", "I", "N", "LA;", "LB;", "LC;", "LF;", "LG;", "LM;", "LN;", "LObj;", "LErr;", "LX;", "LY;"}

// Each kind fits each, in a local, on the stack, where it goes on, and where it is taken.
func TestProofFits(t *testing.T) {
	for _, want := range allKinds {
		for _, got := range allKinds {
			fits := fitsIn(want, got)
			wantStep(t, "nop", got+" .", want+" .", fits)
			wantStep(t, "nop", "- "+got, "- "+want, fits)
			wantStep(t, "nop", "-,I,"+got+" N,I", "-,I,"+want+" N,I", fits)
			wantStep(t, "nop", "- I,"+got, "- I,"+want, fits)
			wantStep(t, "go t", "- "+got, "- "+want, fits)
			if want[0] == 'L' {
				wantStep(t, "static Z s ("+want+")V", "- "+got, "- .", fits)
				wantStep(t, "putall Z s "+want, "- "+got, "- .", fits)
				wantProof(t, "giveref", stepOf("()"+want, 4, "giveref", "- "+got, "- ."), fits)
			}
		}
	}
}

// Locals come first, then the stack; of each how many, then from the first place on; the one that is to be fitted ahead of the other.
func TestProofOrderOfFitting(t *testing.T) {
	wantStep(t, "nop", "LA;,LA; LA;", "LX;,LY; LZ;", "X")
	wantStep(t, "nop", "LA;,LA; LA;", "LA;,LY; LZ;", "Y")
	wantStep(t, "nop", "LA;,LA; LA;", "LA;,LA; LZ;", "Z")
	wantStep(t, "nop", "LA; LA;,LA;", "LA; LX;,LY;", "X")
	wantStep(t, "nop", "LA; LA;,LA;", "LA; LA;,LY;", "Y")
	wantStep(t, "nop", "LA; LA;,LA;", "LX; LA;", "X")
	wantStep(t, "nop", "LA; LA;,LA;", "LA; LX;", "no")
	wantStep(t, "nop", "LA; LA;", "LA; LX;,LX;", "no")
	wantStep(t, "nop", "LA; .", "LA; LX;", "no")
	wantStep(t, "nop", "I,LA; .", "N,LX; .", "no")
	wantStep(t, "nop", "LA;,I .", "LX;,N .", "X")
	wantStep(t, "nop", "LY; .", "LX; .", "X")
	wantStep(t, "nop", "LY; .", "LA; .", "Y")
	wantStep(t, "nop", "LY; .", "LF; .", "0:F")
	// Each place brings its own.
	wantStep(t, "nop", "LB;,LC; .", "LF;,LG; .", "0:F 1:G")
	wantStep(t, "nop", "LB; LN;", "LA; LM;", "0:B 0:N")
}

// opCase is what ops do between two frames.
type opCase struct {
	ops, from, to, want string
}

// opCases are of each op: what it takes, what it puts, what it brings, and what it refuses.
var opCases = []opCase{
	{"nop", "I,LX; N,-", "I,LX; N,-", "."},
	{"push 7", "- N", "- N,I", "."},
	{"push -7", "- N", "- N,N", "no"},
	{"null", "- I", "- I,N", "."},
	{"null", "- I", "- I,I", "no"},
	{"null", "- I", "- I,LX;", "."},

	{"load 1", "-,I N", "-,I N,I", "."},
	{"load 1", "I,- N", "I,- N,-", "no"},
	{"load 1", "I,N N", "I,N N,-", "no"},
	{"load 1", "I,LA; N", "I,LA; N,-", "no"},
	{"load 1", "-,I N", "-,I N,N", "no"},
	{"refload 1", "-,N I", "-,N I,N", "."},
	{"refload 1", "-,LX; I", "-,LX; I,LX;", "."},
	{"refload 1", "-,LX; I", "-,LX; I,N", "no"},
	{"refload 1", "N,- I", "N,- I,-", "no"},
	{"refload 1", "N,I I", "N,I I,-", "no"},
	{"load 1", "I,- N", "I,- N", "no"},
	{"refload 1", "N,I I", "N,I I", "no"},
	{"store 1", "-,- N,I", "-,I N", "."},
	{"store 1", "-,LX; N,I", "-,I N", "."},
	{"store 1", "-,- N,N", "-,- N", "no"},
	{"store 1", "-,- N,LA;", "-,- N", "no"},
	{"store 1", "-,- N,-", "-,- N", "no"},
	{"store 1", "-,- .", "-,- .", "no"},
	{"store 1", "-,- I", "I,- .", "no"},
	{"refstore 1", "-,- I,N", "-,N I", "."},
	{"refstore 1", "-,I I,LX;", "-,LX; I", "."},
	{"refstore 1", "-,- I,LX;", "-,N I", "no"},
	{"refstore 1", "-,- I,I", "-,- I", "no"},
	{"refstore 1", "-,- I,-", "-,- I", "no"},
	{"refstore 1", "-,- .", "-,- .", "no"},

	{"pop", "- I,N", "- I", "."},
	{"pop", "- I,-", "- I", "."},
	{"pop", "- LX;", "- .", "."},
	{"pop", "- .", "- .", "no"},
	{"dup", "- I,N", "- I,N,N", "."},
	{"dup", "- -", "- -,-", "."},
	{"dup", "- LX;", "- LX;,LX;", "."},
	{"dup", "- I", "- I,-", "."},
	{"dup", "- I", "- N,I", "no"},
	{"dup", "- .", "- .", "no"},
	{"swap", "- I,N,LX;", "- I,LX;,N", "."},
	{"swap", "- -,I", "- I,-", "."},
	{"swap", "- I,N", "- I,N", "no"},
	{"swap", "- I", "- I", "no"},
	{"swap", "- .", "- .", "no"},

	{"add", "- N,I,I", "- N,I", "."},
	{"sub", "- N,I,I", "- N,I", "."},
	{"mul", "- N,I,I", "- N,I", "."},
	{"div", "- N,I,I", "- N,I", "."},
	{"add", "- I,I", "- N", "no"},
	{"add", "- I,N", "- -", "no"},
	{"sub", "- N,I", "- -", "no"},
	{"mul", "- -,I", "- -", "no"},
	{"div", "- I,-", "- -", "no"},
	{"div", "- I", "- I", "no"},
	{"add", "- I", "- -", "no"},

	{"ifzero t", "I LX;,I", "I LX;", "."},
	{"ifneg t", "I LX;,I", "I LX;", "."},
	{"ifzero t", "I LX;,N", "I LX;", "no"},
	{"ifneg t", "I LX;,LA;", "I LX;", "no"},
	{"ifzero t", "I I,-", "I I", "no"},
	{"ifzero t", "I .", "I .", "no"},
	{"ifneg t", "I I", "I I", "no"},
	{"ifnull t", "I I,N", "I I", "."},
	{"ifnull t", "I I,LX;", "I I", "."},
	{"ifnull t", "I I,I", "I I", "no"},
	{"ifnull t", "I I,-", "I I", "no"},
	{"ifnull t", "I .", "I .", "no"},
	{"ifsame t", "I I,N,LX;", "I I", "."},
	{"ifsame t", "I I,LY;,LX;", "I I", "."},
	{"ifsame t", "I I,N", "I .", "no"},
	{"ifsame t", "I -,N", "I .", "no"},
	{"ifsame t", "I N,I", "I .", "no"},
	{"ifsame t", "I N", "I .", "no"},
	{"go t", "I LX;", "I LX;", "."},
	{"go t", "I LX;", "I LY;", "Y"},

	{"new X", "- I", "- I,LX;", "."},
	{"new A", "- I", "- I,N", "no"},
	{"new X", "- I", "- I,LA;", "X"},
	{"get X f LY;", "- I,LX;", "- I,LY;", "."},
	{"get X f I", "- N", "- I", "."},
	{"get A f I", "- LB;", "- I", "0:B"},
	{"get F f LZ;", "- LX;", "- LZ;", "0:F"},
	{"get X f I", "- LA;", "- I", "X"},
	{"get A f I", "- LX;", "- I", "X"},
	{"get A f I", "- LC;", "- I", "no"},
	{"get A f I", "- I", "- I", "no"},
	{"get A f I", "- -", "- I", "no"},
	{"get A f I", "- .", "- I", "no"},
	{"get X f I", "- LX;", "- N", "no"},
	{"put X f LY;", "- I,LX;,LY;", "- I", "."},
	{"put X f I", "- LX;,I", "- .", "."},
	{"put X f LY;", "- N,N", "- .", "."},
	{"put X f LY;", "- LA;,LA;", "- .", "Y"},
	{"put X f LY;", "- LA;,LY;", "- .", "X"},
	{"put A f LA;", "- LN;,LB;", "- .", "0:B 0:N"},
	{"put A f LA;", "- LC;,LA;", "- .", "no"},
	{"put A f LA;", "- LA;,LC;", "- .", "no"},
	{"put X f I", "- LX;,N", "- .", "no"},
	{"put X f I", "- I,I", "- .", "no"},
	{"put X f I", "- I", "- .", "no"},
	{"put X f I", "- LA;,N", "- .", "no"},
	{"put X f I", "- .", "- .", "no"},
	{"getall X f LY;", "- I", "- I,LY;", "."},
	{"getall X f I", "- N", "- N,I", "."},
	{"getall X f I", "- N", "- N,N", "no"},
	{"putall X f LY;", "- I,LY;", "- I", "."},
	{"putall X f I", "- N,I", "- N", "."},
	{"putall X f LY;", "- LA;", "- .", "Y"},
	{"putall X f I", "- N", "- .", "no"},
	{"putall X f I", "- .", "- .", "no"},

	{"virtual X m ()V", "- I,LX;", "- I", "."},
	{"virtual X m (ILY;)LZ;", "- I,LX;,I,LY;", "- I,LZ;", "."},
	{"virtual X m ()I", "- N", "- I", "."},
	{"virtual X m (LY;LZ;)V", "- LA;,LA;,LA;", "- .", "Z"},
	{"virtual X m (LY;LZ;)V", "- LA;,LA;,LZ;", "- .", "Y"},
	{"virtual X m (LY;LZ;)V", "- LA;,LY;,LZ;", "- .", "X"},
	{"virtual A m (I)I", "- LB;,I", "- I", "0:B"},
	{"virtual F m (I)I", "- LX;,I", "- I", "0:F"},
	{"virtual A m ()V", "- LC;", "- .", "no"},
	{"virtual A m ()V", "- I", "- .", "no"},
	{"virtual A m (I)V", "- I", "- .", "no"},
	{"virtual A m (I)V", "- I,LA;", "- .", "no"},
	{"virtual A m ()V", "- .", "- .", "no"},
	{"virtual X m ()LZ;", "- LX;", "- N", "no"},
	{"virtual X m ()V", "- LX;", "- I", "no"},
	{"virtual X m (IIII)V", "- LX;,I,I,I", "- .", "no"},

	{"special A m ()V", "- I,LM;", "- I", "."},
	{"special A m (ILY;)LZ;", "- I,LM;,I,LY;", "- I,LZ;", "."},
	{"special M m ()I", "- LM;", "- I", "."},
	{"special Obj m ()I", "- N", "- I", "."},
	{"special A m ()V", "- LN;", "- .", "0:N"},
	{"special A m ()V", "- LA;", "- .", "no"},
	{"special A m ()V", "- I", "- .", "no"},
	{"special A m ()V", "- .", "- .", "no"},
	{"special C m ()V", "- LM;", "- .", "no"},
	{"special N m ()V", "- LM;", "- .", "no"},
	{"special Err m ()V", "- LM;", "- .", "no"},
	{"special F m ()V", "- LM;", "- .", "no"},
	{"special X m ()V", "- LM;", "- .", "X"},
	{"special X m ()V", "- LY;", "- .", "Y"},
	{"special X m ()V", "- LA;", "- .", "no"},
	{"special X m (LY;LZ;)V", "- LM;,LA;,LA;", "- .", "Z"},
	{"special X m (LY;LZ;)V", "- LM;,LA;,LZ;", "- .", "Y"},
	{"special X m (LY;LZ;)V", "- LM;,LY;,LZ;", "- .", "X"},

	{"static X m ()V", "- I", "- I", "."},
	{"static X m (ILY;)LZ;", "- N,I,LY;", "- N,LZ;", "."},
	{"static X m (ILY;)I", "- N,I,LA;", "- N,I", "Y"},
	{"static X m (LY;LZ;)V", "- LA;,LA;", "- .", "Z"},
	{"static X m (ILY;)I", "- LY;,I", "- I", "no"},
	{"static X m (I)V", "- N", "- .", "no"},
	{"static X m (I)V", "- .", "- .", "no"},
	{"static X m ()I", "- .", "- N", "no"},
	{"static X m (IIII)LX;", "- I,I,I,I", "- LX;", "."},

	{"face X m ()V", "- I,LY;", "- I", "."},
	{"face X m (ILY;)LZ;", "- I,LA;,I,LY;", "- I,LZ;", "."},
	{"face X m ()I", "- N", "- I", "."},
	{"face X m (LY;)V", "- LA;,LA;", "- .", "Y"},
	{"face X m ()V", "- I", "- .", "no"},
	{"face X m ()V", "- -", "- .", "no"},
	{"face X m ()V", "- .", "- .", "no"},
	{"face X m ()I", "- LA;", "- N", "no"},

	{"cast X", "- I,LY;", "- I,LX;", "."},
	{"cast X", "- N", "- LX;", "."},
	{"cast X", "- I", "- LX;", "no"},
	{"cast X", "- -", "- LX;", "no"},
	{"cast X", "- .", "- LX;", "no"},
	{"cast A", "- LY;", "- LY;", "Y"},
	{"is X", "- N,LY;", "- N,I", "."},
	{"is X", "- N", "- I", "."},
	{"is X", "- I", "- I", "no"},
	{"is X", "- -", "- I", "no"},
	{"is X", "- .", "- I", "no"},
	{"is X", "- LY;", "- N", "no"},

	{"print", "- N,I", "- N", "."},
	{"print", "- N", "- .", "no"},
	{"print", "- -", "- .", "no"},
	{"print", "- .", "- .", "no"},

	{"give", "- I", "I N", "."},
	{"throw", "- LX;", "I N", "."},
	{"throw", "- N", "I N", "."},
	{"throw", "- I", "- .", "no"},
	{"throw", "- -", "- .", "no"},
	{"throw", "- .", "- .", "no"},
	{"giveint", "- I", "- .", "no"},
	{"giveref", "- LA;", "- .", "no"},
	{"go s", "- .", "I N", "."},
}

func TestProofOps(t *testing.T) {
	seen := map[string]int{}
	for _, c := range opCases {
		seen[strings.Fields(c.ops)[0]]++
		wantStep(t, c.ops, c.from, c.to, c.want)
	}
	for _, word := range opWords {
		if seen[word] == 0 {
			t.Error("no case of", word)
		}
	}
}

// What a method gives back is as the op says.
func TestProofGives(t *testing.T) {
	for _, c := range []struct{ desc, op, stack, want string }{
		{"()I", "giveint", "I", "."}, {"()I", "giveint", "N,I", "."}, {"()I", "giveint", "N", "no"}, {"()I", "giveint", "-", "no"}, {"()I", "giveint", ".", "no"},
		{"()LX;", "giveint", "I", "no"}, {"()V", "giveint", "I", "no"},
		{"()LX;", "giveref", "LX;", "."}, {"()LX;", "giveref", "I,N", "."}, {"()LX;", "giveref", "LA;", "X"}, {"()LX;", "giveref", "I", "no"}, {"()LX;", "giveref", ".", "no"},
		{"()LObj;", "giveref", "LX;", "."}, {"()LA;", "giveref", "LB;", "0:B"}, {"()LA;", "giveref", "LC;", "no"},
		{"()I", "giveref", "LX;", "no"}, {"()V", "giveref", "LX;", "no"}, {"()I", "giveref", "I", "no"},
		{"()V", "give", ".", "."}, {"()V", "give", "I", "."}, {"()I", "give", "I", "no"}, {"()LX;", "give", "LX;", "no"},
	} {
		wantProof(t, c.op+" of "+c.desc, stepOf(c.desc, 4, c.op, "- "+c.stack, "I N"), c.want)
		wantProof(t, c.op+" of "+c.desc+" to the same", stepOf(c.desc, 4, c.op, "- "+c.stack, "- "+c.stack), c.want)
	}
}

// Never more than Deep: an op that puts one more is fine with room for it, and refused without.
func TestProofDeep(t *testing.T) {
	for _, op := range []string{"push 1", "null", "load 0", "refload 1", "dup", "new X", "getall X f I", "getall X f LX;", "static X m ()I", "static X m ()LX;"} {
		for deep := 1; deep <= impl.SlotMax; deep++ {
			stack := strings.TrimSuffix(strings.Repeat("I,", deep), ",")
			less := strings.TrimPrefix(stack, "I,")
			if less == "I" && deep == 1 {
				less = "."
			}
			state := "I,LX; "
			wantProof(t, op, stepOf("()V", deep, op+"\npop", state+stack, state+stack), "no")
			if op != "dup" || deep > 1 {
				wantProof(t, op, stepOf("()V", deep, op+"\npop", state+less, state+less), ".")
			}
		}
	}
	for _, op := range []string{"push 1", "null", "load 0", "refload 1", "new X", "getall X f I", "static X m ()I"} {
		wantProof(t, op+" without room", stepOf("()V", 0, op+"\npop", "I,LX; .", "I,LX; ."), "no")
	}
	// What takes as many as it puts needs no more room.
	for _, c := range []opCase{{"swap", "- I,I", "- I,I", "."}, {"cast X", "- I,N", "- I,LX;", "."}, {"is X", "- I,N", "- I,I", "."}, {"get X f I", "- I,N", "- I,I", "."}, {"virtual X m ()I", "- I,N", "- I,I", "."}, {"special A m ()I", "- I,N", "- I,I", "."}, {"face X m ()I", "- I,N", "- I,I", "."}, {"static X m (I)I", "- I,I", "- I,I", "."}} {
		wantProof(t, c.ops, stepOf("()V", 2, c.ops, c.from, c.to), c.want)
	}
}

// At first a method knows its object, what it takes, and nothing of the other places.
func TestProofBeginning(t *testing.T) {
	begin := func(desc string, flags int, locals int, frame string) string {
		return fmt.Sprint("class M A 0\nmethod m ", desc, " ", flags, " 1 ", locals, "\ns:\ngo s\nframe s ", frame, "\n")
	}
	for _, c := range []struct {
		desc   string
		flags  int
		locals int
		frame  string
		want   string
	}{
		{"()V", 0, 1, "LM; .", "."}, {"()V", 0, 1, "LObj; .", "."}, {"()V", 0, 1, "LA; .", "."}, {"()V", 0, 1, "N .", "no"}, {"()V", 0, 1, "LN; .", "no"},
		{"()V", 0, 1, "LM; I", "no"}, {"()V", 2, 1, "LM; .", "."}, {"()V", 4, 1, "LM; .", "."},
		{"()V", 1, 0, ". .", "."}, {"()V", 1, 1, "- .", "."}, {"()V", 1, 1, "N .", "no"}, {"()V", 1, 1, "LM; .", "no"}, {"()V", 1, 0, ". I", "no"},
		{"(ILX;LA;I)V", 0, 8, "LM;,I,LX;,LA;,I,-,-,- .", "."}, {"(ILX;LA;I)V", 0, 5, "LM;,I,LX;,LA;,I .", "."},
		{"(ILX;)V", 1, 3, "I,LX;,- .", "."}, {"(ILX;)V", 3, 3, "I,LX;,- .", "."},
		{"(I)V", 0, 2, "LM;,N .", "no"}, {"(LX;)V", 0, 2, "LM;,LY; .", "Y"}, {"(LX;)V", 0, 3, "LM;,LX;,I .", "no"}, {"(LX;)V", 1, 2, "-,N .", "no"}, {"(I)V", 1, 2, "-,I .", "no"},
	} {
		wantProof(t, fmt.Sprint(c.desc, " ", c.flags), begin(c.desc, c.flags, c.locals, c.frame), c.want)
	}
	wantProof(t, "without a frame", "class M A 0\nmethod m (LX;I)LM; 0 2 4\nload 2\npop\nrefload 1\npop\nrefload 0\ngiveref\n", ".")
	wantProof(t, "a place of which nothing is known", "class M A 0\nmethod m (LX;I)LM; 0 2 4\nrefload 3\ngiveref\n", "no")
}

// What a frame tells is known behind it, and no more.
func TestProofFrames(t *testing.T) {
	wantStep(t, "nop\nf:\nload 0\npop\nframe f - .", "I .", "- .", "no")
	wantStep(t, "nop\nf:\nload 0\npop\nframe f I .", "I .", "- .", ".")
	wantStep(t, "nop\nf:\nrefload 0\nget A f I\npop\nframe f LObj; .", "LA; .", "- .", "no")
	wantStep(t, "nop\nf:\nrefload 0\nget A f I\npop\nframe f LA; .", "LB; .", "- .", "0:B")
	wantStep(t, "nop\nf:\npush 1\npop\nframe f LY; .", "LX; .", "- .", "Y")
	// Behind what does not go on, a frame is taken as it is, and without one it is refused.
	for _, c := range []struct{ desc, op, stack string }{{"()V", "go s", "."}, {"()V", "give", "N"}, {"()V", "throw", "N"}, {"()I", "giveint", "I"}, {"()LX;", "giveref", "N"}} {
		wantProof(t, c.op+" and a frame", stepOf(c.desc, 4, c.op+"\nf:\nload 0\npop\nframe f I .", "- "+c.stack, "- ."), ".")
		wantProof(t, c.op+" without a frame", stepOf(c.desc, 4, c.op+"\nload 0\npop", "I "+c.stack, "- ."), "no")
	}
	// All others go on, so that the next op's frame is held against what is known.
	for _, op := range []string{"print", "pop", "ifzero s", "ifneg s", "store 0", "putall X f I", "static X m (I)V"} {
		wantStep(t, "push 1\n"+op+"\nload 0\npop", "I .", "- .", ".")
		wantStep(t, "push 1\n"+op+"\nf:\nload 0\npop\nframe f I I", "I .", "- .", "no")
	}
	// A place where it goes on must have a frame, ahead and behind.
	method := func(body string) string { return "class M A 0\nmethod m ()V 1 2 1\n" + body }
	wantProof(t, "on ahead", method("push 1\nifzero e\npush 1\nprint\ne:\ngive\nframe e - .\n"), ".")
	wantProof(t, "on ahead without a frame", method("push 1\nifzero e\npush 1\nprint\ne:\ngive\n"), "no")
	wantProof(t, "ifneg without a frame", method("push 1\nifneg e\npush 1\nprint\ne:\ngive\n"), "no")
	wantProof(t, "ifnull without a frame", method("null\nifnull e\npush 1\nprint\ne:\ngive\n"), "no")
	wantProof(t, "ifsame without a frame", method("null\nnull\nifsame e\npush 1\nprint\ne:\ngive\n"), "no")
	wantProof(t, "back to the beginning", method("s:\npush 1\nprint\ngo s\nframe s - .\n"), ".")
	wantProof(t, "back without a frame", method("s:\npush 1\nprint\ngo s\n"), "no")
	wantProof(t, "back without a frame and without places", "class M A 0\nmethod m ()V 1 0 0\ns:\ngo s\n", "no")
	wantProof(t, "back with one value more", method("s:\npush 1\ngo s\nframe s - .\n"), "no")
	wantProof(t, "what is known where it goes on is what is known there", method("push 1\nstore 0\npush 1\nifzero e\npush 1\nprint\ne:\nload 0\nprint\ngive\nframe e I .\n"), ".")
	wantProof(t, "a number that is not one on the way", method("push 1\nifzero e\npush 1\nstore 0\ne:\nload 0\nprint\ngive\nframe e I .\n"), "no")
	// The frame where it goes on comes ahead of the next op's.
	wantProof(t, "both", method("null\nrefstore 0\nnull\ncast A\npush 1\nifzero e\nf:\nnop\ngive\ne:\ngive\nframe f - LY;\nframe e - LX;\n"), "X")
	// Behind the last op nothing may come.
	for _, op := range []string{"nop", "push 1", "push 1\nprint", "s:\npush 1\nifzero s\nframe s - ."} {
		wantProof(t, "behind the last", method(op+"\n"), "no")
	}
	for _, op := range []string{"give", "null\nthrow", "s:\ngo s\nframe s - ."} {
		wantProof(t, "the last", method(op+"\n"), ".")
	}
}

// Traps: of each op that one covers, ahead of what it does.
func TestProofTraps(t *testing.T) {
	method := func(desc string, deep int, locals int, body string) string {
		return fmt.Sprint("class M A 0\nmethod m ", desc, " 1 ", deep, " ", locals, "\n", body)
	}
	one := func(trap string, stack string) string {
		return method("()V", 1, 1, "f:\nnop\nto:\ngive\nh:\ngive\ntrap f to h "+trap+"\nframe h - "+stack+"\n")
	}
	for _, c := range []struct{ trap, stack, want string }{
		{"Err", "LErr;", "."}, {"Err", "LObj;", "."}, {"-", "LObj;", "."}, {"X", "LX;", "."}, {"X", "LObj;", "."}, {"X", "-", "."}, {"Err", "-", "."},
		{"-", "LErr;", "no"}, {"Err", "LA;", "no"}, {"B", "LA;", "0:B"}, {"X", "LF;", "0:F"}, {"X", "LA;", "X"}, {"A", "LX;", "X"}, {"X", "LY;", "Y"},
		{"Err", "N", "no"}, {"Err", "I", "no"}, {"Err", ".", "no"}, {"-", "LA;", "no"}, {"-", "LF;", "0:F"}, {"-", "LX;", "X"},
	} {
		wantProof(t, "a trap of "+c.trap+" with "+c.stack, one(c.trap, c.stack), c.want)
	}
	wantProof(t, "two values", method("()V", 2, 1, "f:\nnop\nto:\ngive\nh:\ngive\ntrap f to h Err\nframe h - LErr;,LErr;\n"), "no")
	wantProof(t, "without a frame", method("()V", 1, 1, "f:\nnop\nh:\ngive\ntrap f h h Err\n"), "no")
	wantProof(t, "a trap that covers nothing that is known of", method("()V", 1, 1, "nop\nf:\ngive\nh:\ngive\ntrap f h h Err\nframe h - LErr;\n"), ".")
	// Which ops it covers: from the first on, the last one not.
	covers := func(from string, to string) string {
		return method("()V", 1, 1, "a:\npush 1\nb:\nstore 0\nc:\nnop\nd:\nnull\ne:\nrefstore 0\nf:\ngive\nh:\ngive\ntrap "+from+" "+to+" h Err\nframe h I LErr;\n")
	}
	for _, c := range []struct{ from, to, want string }{
		{"a", "b", "no"}, {"b", "c", "no"}, {"c", "d", "."}, {"d", "e", "."}, {"e", "f", "."}, {"f", "h", "no"}, {"c", "f", "."}, {"b", "f", "no"}, {"c", "h", "no"},
	} {
		wantProof(t, "from "+c.from+" to "+c.to, covers(c.from, c.to), c.want)
	}
	wantProof(t, "to the end", method("()V", 1, 1, "s:\ngo s\nf:\ngive\ntrap f end s Err\nframe s - LErr;\nframe f I I\n"), "no")
	wantProof(t, "the handler itself", method("()V", 1, 1, "s:\ngive\nh:\nthrow\ntrap h end h Err\nframe h - LErr;\n"), ".")
	// Locals come ahead of the stack, and how many of it.
	known := func(deep int, frame string) string {
		return method("(LA;LA;)V", deep, 2, "f:\nnop\nto:\ngive\nh:\ngive\ntrap f to h Z\nframe h "+frame+"\n")
	}
	wantProof(t, "locals first", known(1, "LX;,LY; LErr;"), "X")
	wantProof(t, "one by one", known(1, "LA;,LY; LErr;"), "Y")
	wantProof(t, "then the stack", known(1, "LA;,LA; LA;"), "Z")
	wantProof(t, "locals ahead of how many values", known(1, "LA;,LY; ."), "Y")
	wantProof(t, "Deep ahead of locals", known(0, "LX;,LY; ."), "no")
	wantProof(t, "Deep of one", known(1, "LX;,LY; ."), "X")
	// Traps are looked at in order, behind the op's own frame and ahead of what it does.
	two := func(first string, second string) string {
		return method("(LA;)V", 1, 1, "f:\nnop\nto:\ngive\nh:\ngive\nk:\ngive\ntrap f to "+first+" Err\ntrap f to "+second+" Err\nframe h LX; LErr;\nframe k LY; LErr;\n")
	}
	wantProof(t, "two traps", two("h", "k"), "X")
	wantProof(t, "two traps, turned", two("k", "h"), "Y")
	wantProof(t, "behind the frame", method("(LA;)V", 1, 1, "f:\nnop\nto:\ngive\nh:\ngive\ntrap f to h Err\nframe f LX; .\nframe h LY; LErr;\n"), "X")
	wantProof(t, "what the frame tells", method("(LA;)V", 1, 1, "f:\nnop\nto:\ngive\nh:\ngive\ntrap f to h Err\nframe f LObj; .\nframe h LA; LErr;\n"), "no")
	wantProof(t, "ahead of the op", method("(LA;)V", 1, 1, "refload 0\nf:\nputall X f LX;\nto:\ngive\nh:\ngive\ntrap f to h Err\nframe h LY; LErr;\n"), "Y")
	wantProof(t, "ahead of what it puts into a place", method("()V", 1, 1, "push 1\nf:\nstore 0\nto:\ngive\nh:\ngive\ntrap f to h Err\nframe h I LErr;\n"), "no")
	wantProof(t, "the stack does not matter", method("()V", 3, 1, "push 1\nnull\nf:\nnop\nto:\ngive\nh:\ngive\ntrap f to h Err\nframe h - LErr;\n"), ".")
}

// Each method with a body is proved, in order, be it static, private or a beginning.
func TestProofMethods(t *testing.T) {
	good, bad := " 1 1\ngive\n", " 1 1\npop\n"
	wantProof(t, "all fine", "class M A 4\nmethod a ()V 8\nmethod b ()V 0"+good+"method begin ()V 1"+good, ".")
	for _, m := range []string{"method b ()V 0", "method b ()V 1", "method b ()V 2", "method b ()V 3", "method b ()V 4", "method begin ()V 1"} {
		wantProof(t, m, "class M A 4\nmethod a ()V 8\nmethod c ()V 0"+good+m+bad, "no")
	}
	x := "method x (LA;)V 1 1 1\nrefload 0\nputall X f LX;\ngive\n"
	y := "method y (LA;)V 1 1 1\nrefload 0\nputall X f LY;\ngive\n"
	wantProof(t, "in order", "class M A 0\n"+x+y, "X")
	wantProof(t, "turned", "class M A 0\n"+y+x, "Y")
	wantProof(t, "what is refused first", "class M A 0\nmethod b ()V 0"+bad+x, "no")
	wantProof(t, "what is brought by both", "class M A 0\nmethod c (LB;)V 1 1 1\nrefload 0\nputall X f LF;\ngive\nmethod d (LB;)V 1 1 1\nrefload 0\nputall X f LG;\ngive\n", "0:F 1:G")
}

// Whatever fault keeps a class from being brought ends the proof, by its name.
func TestProofFaults(t *testing.T) {
	use := func(name string) string {
		return "class M Obj 0\nmethod m (LA;)V 1 1 1\nrefload 0\nputall X f L" + name + ";\ngive\n"
	}
	link := func(name string, code int, told string, more ...impl.Loader) {
		t.Helper()
		list := append([]impl.Loader{loaderOf(t, 1, use(name))}, more...)
		wantLinkFault(t, worldOf(t, list...), 0, "M", code, told)
	}
	link("X", impl.FaultNone, "X", loaderOf(t, -1, srcA))
	link("X", impl.FaultForm, "X", impl.Loader{Parent: -1, Files: []impl.File{{Name: "X"}}})
	link("X", impl.FaultCircle, "X", impl.Loader{Parent: 0})
	link("X", impl.FaultCircle, "X", loaderOf(t, -1, "class X Y 0\nclass Y X 0"))
	link("X", impl.FaultKind, "X", loaderOf(t, -1, "class X F 0\nclass F Obj 5"))
	link("X", impl.FaultKind, "X", loaderOf(t, -1, "class X Obj 0\nface Y\nclass Y Obj 0"))
	link("X", impl.FaultNone, "A", loaderOf(t, -1, "class X Obj 0"))
	link("X", impl.FaultProof, "M", loaderOf(t, -1, "class X Obj 0\nclass A Obj 0"))
	w := bound(t, worldOf(t, loaderOf(t, -1, use("X")+"class X Obj 0"), loaderOf(t, -1, "class X Obj 0")), 0, 1, "X")
	wantLinkFault(t, loadAll(t, w, 1, "X"), 0, "M", impl.FaultBond, "X")
	list := chain(t, 9)
	list[0].Files = []impl.File{fileOf(t, use("X")), fileOf(t, "class X Obj 5")}
	w, _ = load(t, worldOf(t, list...), 1, "N9")
	wantLinkFault(t, w, 0, "M", impl.FaultFull, "X")
	w, _ = load(t, worldOf(t, list...), 1, "N8")
	w, _ = loadLinked(t, w, 0, "M")
	if len(w.Classes) != impl.ClassMax {
		t.Error(names(w))
	}
	// A proof means by a name what the loader of its class means, not what another one does.
	own := loaderOf(t, 1, "class M Obj 0\nmethod m (LB;)V 1 1 1\nrefload 0\nputall X f LA;\ngive\nclass A Obj 0\n")
	wantLinkFault(t, worldOf(t, own, loaderOf(t, -1, srcA+srcB)), 0, "M", impl.FaultProof, "M")
	own = loaderOf(t, 1, "class M Obj 0\nmethod m (LB;)V 1 1 1\nrefload 0\nputall X f LA;\ngive\n")
	w, _ = loadLinked(t, worldOf(t, own, loaderOf(t, -1, srcA+srcB)), 0, "M")
	if names(w) != "0:M 1:A 1:B" || known(w) != "0:M=2 1:A=3 0:A=3 1:B=4 0:B=4" {
		t.Error(names(w), known(w))
	}
}
