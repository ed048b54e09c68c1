package tests

import (
	"fmt"
	"slices"
	"strings"
	"testing"

	"loop.example/stowage/impl"
)

// toldLines are the lines of a text.
func toldLines(text string) []string {
	if text == "" {
		return nil
	}
	return strings.Split(strings.TrimSuffix(text, "\n"), "\n")
}

// fileLinesOf are the lines that tell a file of a class, up to `end`.
func fileLinesOf(loader int, name string, class string) []string {
	return slices.Concat([]string{fmt.Sprint("file ", loader, " ", name)}, toldLines(class), []string{"end"})
}

// wantSession wants what is answered to lines, the answers with ` / ` between.
func wantSession(t *testing.T, what string, lines []string, want string) {
	t.Helper()
	got := impl.Session(lines)
	if told := strings.Join(toldLines(got), " / "); told != want || got != "" && !strings.HasSuffix(got, "\n") {
		t.Errorf("%s: %q, wanted %q", what, told, want)
	}
}

// wantLast wants what is answered to lines behind others that are answered otherwise.
func wantLast(t *testing.T, before []string, lines []string, want string) {
	t.Helper()
	head := impl.Session(before)
	rest, ok := strings.CutPrefix(impl.Session(slices.Concat(before, lines)), head)
	if told := strings.Join(toldLines(rest), " / "); !ok || told != want {
		t.Errorf("%q: %q, wanted %q", lines, told, want)
	}
}

const sessionExample = `loader -
loader 0
file 0 A
class A Obj 0
method get ()I 0 1 1
  push 7
  giveint
end
file 0 U
class U Obj 0
method make ()LA; 1 1 0
  new A
  giveref
end
file 1 M
class M Obj 0
method main ()V 1 2 0
  static U make ()LA;
  virtual A get ()I
  print
  push 1
  push 0
  div
  print
  give
  pop
  push 9
  print
  give
trap 7 15 16 Err
frame 16 . LErr;
end
check 1 M
run 1 M 100 5
file 1 A
class A Obj 0
end
run 1 M 100 5
way 1 A 0
run 1 M 100 5
pick 2 link 0 A
run 1 M 3 5
run 1 M 100 0
trust 1 M 100 1
file 0 B
class B A 0
method get ()I 0 1 1
  null
  giveint
end
check 0 B
trust 0 B 9 9
loader 9
check 0 Q
what
`

const sessionAnswers = "ok / ok / ok / ok / ok / ok / fine 14: 7 9 / ok / fault 5 A 4 / ok / fine 14: 7 9 / ok / fuel 3 / room A 2 / room Err 10: 7 / ok / fault 12 B / fault 8 B 0 / no / fault 1 Q / what"

func TestSessionExample(t *testing.T) {
	wantSession(t, "the document's example", toldLines(sessionExample), sessionAnswers)
}

// bareA is a class A.
const bareA = "class A Obj 0\n"

// session is a session of two loaders, the first with A, the second with M, that prints 7.
func session() []string {
	return slices.Concat(
		[]string{"loader -", "loader 0"},
		fileLinesOf(0, "A", bareA),
		fileLinesOf(1, "M", mainBy(1, 0, "push 7 / print / give")),
	)
}

// soundSessionLines are lines that are answered as they should be, behind those of session.
var soundSessionLines = []struct {
	line string
	want string
}{
	{"loader -", "ok"},
	{"loader 0", "ok"},
	{"loader 1", "ok"},
	{"way 0 B 1", "ok"},
	{"way 1 A 0", "ok"},
	{"way 0 A 0", "ok"},
	{"way 0 Obj 1", "ok"},
	{"pick 0 load 0 A", "ok"},
	{"pick 300 link 1 M", "ok"},
	{"pick 7 link 1 Obj", "ok"},
	{"pick 7 load 0 Q", "ok"},
	{"run 1 M 100 5", "fine 3: 7"},
	{"run 1 M 3 0", "fine 3: 7"},
	{"run 1 M 2 0", "fuel 2: 7"},
	{"run 1 M 1 0", "fuel 1"},
	{"run 1 M 0 20", "fuel 0"},
	{"run 1 M 300 20", "fine 3: 7"},
	{"run 1 A 300 20", "fault 8 A 0"},
	{"run 0 M 300 20", "fault 1 M 0"},
	{"run 1 Obj 300 20", "fault 8 Obj 0"},
	{"trust 1 M 100 5", "fine 3: 7"},
	{"trust 1 M 2 5", "fuel 2: 7"},
	{"trust 0 A 0 0", "fault 8 A 0"},
	{"check 1 M", "ok"},
	{"check 1 A", "ok"},
	{"check 0 A", "ok"},
	{"check 0 Obj", "ok"},
	{"check 1 Err", "ok"},
	{"check 0 M", "fault 1 M"},
}

func TestSessionLines(t *testing.T) {
	wantSession(t, "a session", session(), "ok / ok / ok / ok")
	for _, c := range soundSessionLines {
		wantLast(t, session(), []string{c.line}, c.want)
	}
}

// A line of as many words as none has, or with another word first, is none that is known.
func TestSessionWhat(t *testing.T) {
	all := []string{"file 0 B", "file 1 A"}
	for _, c := range soundSessionLines {
		all = append(all, c.line)
	}
	for _, line := range all {
		words := strings.Split(line, " ")
		for at := range len(words) + 1 {
			for _, more := range []string{"", "0", "A", "-"} {
				wantLast(t, session(), []string{strings.Join(slices.Insert(slices.Clone(words), at, more), " ")}, "what")
			}
		}
		for at := range words {
			wantLast(t, session(), []string{strings.Join(slices.Delete(slices.Clone(words), at, at+1), " ")}, "what")
		}
		for _, lead := range []string{strings.ToUpper(words[0]), words[0] + "s", words[0][1:], words[0] + "\t", "what", "end", ""} {
			wantLast(t, session(), []string{strings.Join(append([]string{lead}, words[1:]...), " ")}, "what")
		}
		wantLast(t, session(), []string{strings.ReplaceAll(line, " ", "\t")}, "what")
	}
	for _, line := range []string{"", " ", "  ", "what", "end", "ok", "\n", "\x00", "class A Obj 0", "  push 7", "loader\n-", "face A", "end 0"} {
		wantLast(t, session(), []string{line}, "what")
	}
}

// noNumbers are words that are no number.
var noNumbers = []string{"", "-", "-1", "-0", "+1", "+0", "00", "01", "001", "000001", "100000", "300000", "123456", "99999999999999999999", "18446744073709551616", "4294967296", "x", "0x1", "1x", "x1", "1.", "1e0", "1_0", "0\n", "1\x00", "\u0661", "1,", "O", "l"}

// noNames are words that are no name.
var noNames = []string{"", "9", "9A", "Abcdefghi", "A_", "A.", "A-B", "-", "A\n", "A\x00", "\u00c4", "LA;", "A\t"}

// with is a line with another word in a place.
func with(line string, at int, word string) string {
	words := strings.Split(line, " ")
	words[at] = word
	return strings.Join(words, " ")
}

// What stands for a number that is none, or for a name that is none, is not so.
func TestSessionNo(t *testing.T) {
	for _, c := range []struct {
		line    string
		want    string
		numbers []int
		names   []int
	}{
		{"loader 1", "ok", []int{1}, nil},
		{"way 1 A 0", "ok", []int{1, 3}, []int{2}},
		{"pick 5 load 1 A", "ok", []int{1, 3}, []int{4}},
		{"pick 5 link 1 A", "ok", []int{1, 3}, []int{4}},
		{"run 1 M 100 5", "fine 3: 7", []int{1, 3, 4}, []int{2}},
		{"trust 1 M 100 5", "fine 3: 7", []int{1, 3, 4}, []int{2}},
		{"check 1 M", "ok", []int{1}, []int{2}},
	} {
		wantLast(t, session(), []string{c.line}, c.want)
		for _, at := range c.numbers {
			for _, word := range noNumbers {
				if c.line != "loader 1" || word != "-" {
					wantLast(t, session(), []string{with(c.line, at, word)}, "no")
				}
			}
		}
		for _, at := range c.names {
			for _, word := range noNames {
				wantLast(t, session(), []string{with(c.line, at, word)}, "no")
			}
		}
	}
}

// A loader that is not there is none, also if it is there behind the line.
func TestSessionLoaders(t *testing.T) {
	for _, line := range []string{"loader 2", "loader 3", "loader 99999", "way 2 A 0", "way 0 A 2", "way 99999 A 0", "pick 0 load 2 A", "pick 0 link 2 A", "run 2 M 9 9", "trust 2 M 9 9", "check 2 A", "check 99999 A"} {
		wantLast(t, session(), []string{line}, "no")
	}
	wantSession(t, "the first loader is not its own parent", []string{"loader 0"}, "no")
	wantSession(t, "a parent that comes", []string{"loader 1", "loader -", "loader 0", "loader 1", "loader 2"}, "no / ok / ok / ok / no")
	wantSession(t, "a line that is refused leaves nothing", []string{"loader 0", "loader -", "loader 1", "check 1 A", "loader 0", "check 1 A", "check 2 A"}, "no / ok / no / no / ok / fault 1 A / no")
	wantSession(t, "no loader", []string{"run 0 M 1 1", "trust 0 M 1 1", "check 0 M", "check 0 Obj", "way 0 A 0", "pick 0 load 0 A", "file 0 A", "end", "file - A"}, "no / no / no / no / no / no / what / what / what")
}

// A parent is asked for what a loader has not.
func TestSessionParents(t *testing.T) {
	lines := slices.Concat([]string{"loader -", "loader 0", "loader -"}, fileLinesOf(0, "A", bareA), []string{"check 0 A", "check 1 A", "check 2 A"})
	wantSession(t, "parents", lines, "ok / ok / ok / ok / ok / ok / fault 1 A")
}

func TestSessionPickWords(t *testing.T) {
	for _, word := range []string{"read", "", "LOAD", "Link", "loads", "lin", "1", "2", "0", "load\n", "load,link", "-"} {
		wantLast(t, session(), []string{with("pick 5 load 1 A", 2, word)}, "no")
	}
	for _, word := range []string{"301", "99999"} {
		wantLast(t, session(), []string{with("pick 5 load 1 A", 1, word)}, "no")
		wantLast(t, session(), []string{with("pick 5 link 1 A", 1, word)}, "no")
	}
}

func TestSessionEmpty(t *testing.T) {
	for _, lines := range [][]string{nil, {}} {
		wantSession(t, "no lines", lines, "")
	}
	wantSession(t, "one empty line", []string{""}, "what")
}

// Lines of a file are a class's, whatever they would tell elsewhere.
func TestSessionFileLines(t *testing.T) {
	base := session()
	for _, line := range []string{"loader -", "run 1 M 100 5", "check 1 M", "file 0 B", "file 9 B", "pick 0 load 0 A", "what", "", " end", "end ", "END", "end\n", "end end"} {
		wantLast(t, base, []string{"file 0 B", "class B Obj 0", line}, "")
		wantLast(t, base, []string{"file 0 B", "class B Obj 0", line, "end"}, "no")
		wantLast(t, base, []string{"file 0 B", line, "end", "check 0 B"}, "no / fault 1 B")
		wantLast(t, base, []string{"file 0 B", line, "class B Obj 0", "end", "end"}, "no / what")
	}
	wantLast(t, base, []string{"file 0 B", "loader -", "end", "check 2 A", "loader -", "check 2 A"}, "no / no / ok / fault 1 A")
	wantLast(t, base, []string{"file 0 B", "pick 0 load 0 Q", "end", "run 1 M 9 9"}, "no / fine 3: 7")
	wantLast(t, base, []string{"file 0 B", "way 0 B 1", "end", "check 0 B"}, "no / fault 1 B")
}

// A file that is never ended tells nothing, nor does what stands in it.
func TestSessionFileWithoutEnd(t *testing.T) {
	wantLast(t, session(), []string{"file 0 B"}, "")
	wantLast(t, session(), []string{"file 0 B", "class B Obj 0"}, "")
	wantLast(t, session(), []string{"file 0 B", "class B Obj 0", "run 1 M 100 5", "check 0 B", "loader -", "what", "file 1 B"}, "")
	wantSession(t, "the last of all lines", append(slices.Repeat([]string{"loader x"}, impl.SessionMax-3), "loader -", "file 0 A", "class A Obj 0", "end"), strings.Repeat("no / ", impl.SessionMax-3)+"ok")
}

// A file is one more of a loader's, if AsmGet reads its lines, and its name may be that of a file.
func TestSessionFiles(t *testing.T) {
	base := session()
	wantLast(t, base, append(fileLinesOf(0, "B", "class B Obj 0\n"), "check 0 B", "check 1 B"), "ok / ok / ok")
	wantLast(t, base, append(fileLinesOf(1, "B", "class B Obj 0\n"), "check 0 B", "check 1 B"), "ok / fault 1 B / ok")
	wantLast(t, base, append(fileLinesOf(1, "A", bareA), "check 0 A", "check 1 A"), "ok / ok / ok")
	wantLast(t, base, append(fileLinesOf(0, "B", "class C Obj 0\n"), "check 0 B", "check 0 C"), "ok / fault 2 B / fault 1 C")
	wantLast(t, base, fileLinesOf(0, "A", "class A Obj 4\n"), "no")
	wantLast(t, base, fileLinesOf(0, "A", bareA), "no")
	for _, name := range append([]string{"Obj", "Err"}, noNames...) {
		wantLast(t, base, []string{"file 0 " + name, "class A Obj 0", "end"}, "no")
		wantLast(t, base, []string{"file 0 " + name, "check 0 A", "end", "check 0 A"}, "no / ok")
	}
	for _, lines := range []string{"", "\n", "class B Obj 0\n\n", "class B Obj 8\n", "class B Obj\n", " class B Obj 0\n", "class B Obj 0\nclass C Obj 0\n", "class B Obj 0\nmethod f ()V 1 0 0\n", "class B B 0\n"} {
		wantLast(t, base, append(fileLinesOf(0, "B", lines), "check 0 B"), "no / fault 1 B")
	}
	for _, word := range append([]string{"2", "3", "99999"}, noNumbers...) {
		wantLast(t, base, []string{"file " + word + " B", "class B Obj 0", "end", "check 0 B"}, "what / what / what / fault 1 B")
	}
}

// A line that is refused does not keep a later file from being told: its lines are its own.
func TestSessionFilesApart(t *testing.T) {
	lines := slices.Concat(fileLinesOf(0, "B", "class B\n"), fileLinesOf(0, "B", "class B Obj 0\n"), fileLinesOf(0, "C", "class C B 0\n"), []string{"check 0 C"})
	wantLast(t, session(), lines, "no / ok / ok / ok")
}

// All that AsmGet reads is a file, up to its limit; that a proof refuses it is told by who checks it.
func TestSessionLongFile(t *testing.T) {
	for n, want := range map[int]string{impl.AsmMax: "ok / fault 12 A", impl.AsmMax + 1: "no / fault 1 A"} {
		lines := slices.Concat([]string{"loader -"}, fileLinesOf(0, "A", longLines(n)), []string{"check 0 A"})
		wantSession(t, fmt.Sprint(n, " bytes"), lines, "ok / "+want)
	}
}

// Ways come in any order, and stand in theirs; each name has one.
func TestSessionWays(t *testing.T) {
	base := slices.Concat([]string{"loader -", "loader -"}, fileLinesOf(1, "A", bareA), fileLinesOf(1, "B", "class B A 0\n"), fileLinesOf(1, "C", "class C Obj 0\n"))
	ways := []string{"way 0 A 1", "way 0 B 1", "way 0 C 1", "way 0 a 1"}
	for _, order := range [][]int{{0, 1, 2, 3}, {3, 2, 1, 0}, {1, 3, 0, 2}, {2, 0, 3, 1}, {0, 2, 1, 3}} {
		lines := slices.Clone(base)
		for _, at := range order {
			lines = append(lines, ways[at])
		}
		wantLast(t, lines[:len(base)], lines[len(base):], "ok / ok / ok / ok")
		wantLast(t, lines, []string{"check 0 A", "check 0 B", "check 0 C", "check 0 a"}, "ok / ok / ok / fault 1 a")
		for _, more := range []string{"way 0 A 1", "way 0 A 0", "way 0 a 1", "way 0 D 1", "way 0 B 0"} {
			wantLast(t, lines, []string{more, "check 0 A"}, "no / ok")
		}
	}
	wantLast(t, base, []string{"way 0 B 1", "way 0 B 0", "way 0 B 1", "check 0 B"}, "ok / no / no / ok")
	wantLast(t, base, []string{"way 0 A 0", "check 0 A"}, "ok / fault 3 A")
	wantLast(t, base, []string{"way 0 A 1", "way 1 A 0", "check 0 A", "check 1 A"}, "ok / ok / fault 3 A / fault 3 A")
}

// lineTimes is a line n times, with its number in it.
func lineTimes(line string, n int) []string {
	return toldLines(counted(line+"\n", n))
}

// Each limit may be met exactly; one more is refused, and leaves what was there.
func TestSessionLimits(t *testing.T) {
	many := func(answer string, n int) string { return strings.Repeat(answer+" / ", n) }
	loaders := slices.Repeat([]string{"loader -"}, impl.LoaderMax)
	wantSession(t, "loaders", append(loaders, "loader -", "loader 0", "check 2 A", "check 3 A"), many("ok", impl.LoaderMax)+"no / no / fault 1 A / no")

	files := []string{"loader -", "loader -"}
	for i := range impl.FilesMax + 1 {
		files = append(files, fileLinesOf(0, fmt.Sprint("A", i), fmt.Sprint("class A", i, " Obj 0\n"))...)
	}
	files = slices.Concat(files, fileLinesOf(1, "A", bareA), []string{"check 0 A4", "check 0 A5", "check 1 A"})
	wantSession(t, "files", files, "ok / ok / "+many("ok", impl.FilesMax)+"no / ok / ok / fault 1 A5 / ok")

	ways := slices.Concat([]string{"loader -", "loader -"}, lineTimes("way 0 B%d 1", impl.WaysMax+1), []string{"way 1 B0 0", "way 0 A 1"})
	wantSession(t, "ways", ways, "ok / ok / "+many("ok", impl.WaysMax)+"no / ok / no")

	picks := slices.Concat(session(), lineTimes("pick %d load 0 A", impl.PickMax-1), []string{"pick 400 load 0 A", "pick 0 link 0 A", "pick 2 load 0 Q", "run 1 M 9 9"})
	wantLast(t, session(), picks[len(session()):], many("ok", impl.PickMax-1)+"no / ok / no / fine 3: 7")

	for _, word := range []string{"run", "trust"} {
		wantLast(t, session(), []string{word + " 1 M 300 20", word + " 1 M 301 20", word + " 1 M 300 21", word + " 1 M 99999 5", word + " 1 M 9 99999", word + " 1 M 0 0"}, "fine 3: 7 / no / no / no / no / fuel 0")
	}
	wantLast(t, session(), []string{"pick 300 load 0 A", "pick 301 load 0 A"}, "ok / no")
}

// Lines behind SessionMax tell nothing, whatever they are.
func TestSessionMaxLines(t *testing.T) {
	lines := append(session(), slices.Repeat([]string{"check 0 A"}, impl.SessionMax)...)
	for n := impl.SessionMax - 3; n < len(lines); n++ {
		want := strings.Repeat("ok / ", 3) + "ok" + strings.Repeat(" / ok", min(n, impl.SessionMax)-len(session()))
		wantSession(t, fmt.Sprint(n, " lines"), lines[:n], want)
	}
	for _, line := range []string{"what", "end", "loader -", "file 0 A", "run 1 M 9 9"} {
		wantLast(t, lines[:impl.SessionMax], []string{line, line}, "")
	}
}

// endSources are classes M whose runs end in each way, with what is told of a run that is proved, and of one that is not.
var endSources = []struct {
	name   string
	src    string
	run    string
	proved string
	not    string
}{
	{"fine", mainBy(1, 0, "push 1 / print / push -2 / print / give"), "M 9 9", "fine 5: 1 -2", "fine 5: 1 -2"},
	{"fine, nothing printed", mainBy(1, 0, "give"), "M 9 9", "fine 1", "fine 1"},
	{"thrown", mainBy(2, 0, "push 3 / print / new Err / throw"), "M 9 9", "thrown Err 4: 3", "thrown Err 4: 3"},
	{"thrown, an own one", mainBy(2, 0, "new M / throw"), "M 9 9", "thrown M 2", "thrown M 2"},
	{"fault", mainBy(2, 0, "push 3 / print / new Q / throw"), "M 9 9", "fault 1 Q 3: 3", "fault 1 Q 3: 3"},
	{"fault of a method that is not there", mainBy(2, 0, "static M f ()V / give"), "M 9 9", "fault 8 M 1", "fault 8 M 1"},
	{"fuel", mainBy(1, 0, "push 5 / print / go 0", "frame 0 . .\n"), "M 7 0", "fuel 7: 5 5", "fuel 7: 5 5"},
	{"room", mainBy(1, 0, "push 4 / print / new M / pop / go 4", "frame 4 . .\n"), "M 99 3", "room M 12: 4", "room M 12: 4"},
	{"deep", mainBy(1, 0, "push 6 / print / static M main ()V / give"), "M 99 3", "deep M 36: 6 6 6 6 6 6 6 6 6 6 6 6", "deep M 36: 6 6 6 6 6 6 6 6 6 6 6 6"},
	{"confused", mainBy(1, 0, "push 8 / print / pop / give"), "M 9 9", "fault 12 M 0", "confused 3: 8"},
	{"many numbers", mainBy(2, 0, "push 32767 / dup / mul / dup / print / push -32768 / mul / print / give"), "M 9 0", "fine 9: 1073676289 2147450880", "fine 9: 1073676289 2147450880"},
}

func TestSessionEnds(t *testing.T) {
	for _, c := range endSources {
		base := append([]string{"loader -"}, fileLinesOf(0, "M", c.src)...)
		wantLast(t, base, []string{"run 0 " + c.run}, c.proved)
		wantLast(t, base, []string{"trust 0 " + c.run}, c.not)
	}
}

// Who checks a class links it, and all above it, and proves it, in a world of its own.
func TestSessionCheck(t *testing.T) {
	above := "class A Obj 0\nmethod f ()V 4 0 1\n  give\n"
	base := slices.Concat(
		[]string{"loader -", "loader 0"},
		fileLinesOf(0, "A", above),
		fileLinesOf(0, "B", "class B A 0\nmethod f ()V 0 0 1\n  give\n"),
		fileLinesOf(1, "C", "class C B 0\n"),
		fileLinesOf(1, "D", "class D Q 0\n"),
		fileLinesOf(1, "E", "class E F 0\n"),
		fileLinesOf(1, "F", "class F E 0\n"),
		fileLinesOf(1, "G", "class G A 0\nmethod g ()I 0 1 1\n  null\n  giveint\n"),
	)
	wantSession(t, "files", base, "ok / ok / ok / ok / ok / ok / ok / ok / ok")
	wantLast(t, base, []string{"check 0 A", "check 0 B", "check 1 C", "check 1 D", "check 1 E", "check 1 F", "check 1 G", "check 0 G"}, "ok / fault 11 B / fault 11 B / fault 1 Q / fault 3 E / fault 3 F / fault 12 G / fault 1 G")
	wantLast(t, base, []string{"pick 0 load 1 D", "pick 0 link 0 B", "check 0 A", "run 1 G 9 9"}, "ok / ok / ok / fault 12 G 0")
	wantLast(t, base, append(fileLinesOf(1, "A", "class A Obj 0\n"), "check 1 A", "check 1 G", "check 1 C"), "no / ok / fault 12 G / fault 11 B")
}

// Picks are done in each run behind them, be it proved or not, and never by who checks.
func TestSessionPicks(t *testing.T) {
	base := slices.Concat(session(), fileLinesOf(0, "B", "class B Q 0\n"), fileLinesOf(0, "C", "class C Obj 0\nmethod f ()I 1 1 0\n  null\n  giveint\n"))
	wantLast(t, base, []string{"run 1 M 9 9", "pick 2 load 0 B", "run 1 M 9 9", "trust 1 M 9 9", "run 1 M 2 9", "check 1 M"}, "fine 3: 7 / ok / fault 1 Q 2: 7 / fault 1 Q 2: 7 / fault 1 Q 2: 7 / ok")
	wantLast(t, base, []string{"pick 1 load 0 C", "run 1 M 9 9", "trust 1 M 9 9", "pick 1 link 0 C", "run 1 M 9 9", "trust 1 M 9 9", "pick 0 link 0 B", "run 1 M 9 9"}, "ok / fine 3: 7 / fine 3: 7 / ok / fault 12 C 1 / fine 3: 7 / ok / fault 1 Q 0")
	wantLast(t, base, []string{"pick 1 load 0 B", "pick 1 load 0 Z", "run 1 M 9 9"}, "ok / ok / fault 1 Q 1")
	wantLast(t, base, []string{"pick 1 load 0 Z", "pick 1 load 0 B", "run 1 M 9 9"}, "ok / ok / fault 1 Z 1")
}
