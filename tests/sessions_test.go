package tests

import (
	"cmp"
	"fmt"
	"reflect"
	"regexp"
	"slices"
	"strconv"
	"strings"
	"testing"

	"loop.example/stowage/impl"
)

// clerk tells a session a second time: a form is a pattern, and what would be is asked by StartOk of the whole.
type clerk struct {
	start impl.Start
	file  *impl.File
	of    int
	text  string
}

var (
	figures   = regexp.MustCompile(`^(0|[1-9][0-9]{0,4})$`)
	formOf1   = regexp.MustCompile(`^(loader) ([^ ]*)$`)
	formOf2   = regexp.MustCompile(`^(check|file) ([^ ]*) ([^ ]*)$`)
	formOfWay = regexp.MustCompile(`^(way) ([^ ]*) ([^ ]*) ([^ ]*)$`)
	formOf4   = regexp.MustCompile(`^(run|trust|pick) ([^ ]*) ([^ ]*) ([^ ]*) ([^ ]*)$`)
)

// figure is -7 of a word that is no number.
func figure(word string) int {
	if !figures.MatchString(word) {
		return -7
	}
	n, _ := strconv.Atoi(word)
	return n
}

func (c *clerk) has(loader int) bool {
	return loader >= 0 && loader < len(c.start.Loaders)
}

// tries lets a start be changed, if that leaves it ok.
func (c *clerk) tries(change func(s *impl.Start)) string {
	s := ownStart(c.start)
	change(&s)
	s.Name = "A"
	if !impl.StartOk(s) {
		return "no\n"
	}
	c.start = s
	return "ok\n"
}

// ownStart is a start with lists of its own.
func ownStart(s impl.Start) impl.Start {
	return roomy(reflect.ValueOf(s)).Interface().(impl.Start)
}

func (c *clerk) hear(line string) string {
	if c.file != nil {
		return c.hearFile(line)
	}
	for _, form := range []*regexp.Regexp{formOf1, formOf2, formOfWay, formOf4} {
		if w := form.FindStringSubmatch(line); w != nil {
			return c.does(w[1:])
		}
	}
	return "what\n"
}

func (c *clerk) hearFile(line string) string {
	if line != "end" {
		c.text += line + "\n"
		return ""
	}
	f := *c.file
	c.file = nil
	x, ok := impl.AsmGet(c.text)
	f.Text = impl.FilePut(x)
	if !ok {
		return "no\n"
	}
	return c.tries(func(s *impl.Start) { s.Loaders[c.of].Files = append(s.Loaders[c.of].Files, f) })
}

func (c *clerk) does(w []string) string {
	switch w[0] {
	case "loader":
		parent := figure(w[1])
		if w[1] == "-" {
			parent = -1
		} else if !c.has(parent) {
			return "no\n"
		}
		return c.tries(func(s *impl.Start) { s.Loaders = append(s.Loaders, impl.Loader{Parent: parent}) })
	case "file":
		if !c.has(figure(w[1])) {
			return "what\n"
		}
		c.file, c.of, c.text = &impl.File{Name: w[2]}, figure(w[1]), ""
		return ""
	case "check":
		return c.checks(figure(w[1]), w[2])
	case "way":
		if !c.has(figure(w[1])) {
			return "no\n"
		}
		return c.tries(func(s *impl.Start) {
			l := &s.Loaders[figure(w[1])]
			l.Ways = append(l.Ways, impl.Way{Name: w[2], To: figure(w[3])})
			slices.SortFunc(l.Ways, func(a impl.Way, b impl.Way) int { return cmp.Compare(a.Name, b.Name) })
		})
	case "pick":
		p := impl.Pick{At: figure(w[1]), Kind: slices.Index([]string{"", "load", "link"}, w[2]), Loader: figure(w[3]), Name: w[4]}
		return c.tries(func(s *impl.Start) { s.Picks = append(s.Picks, p) })
	}
	s := c.start
	s.Prove, s.Loader, s.Name, s.Fuel, s.Room = w[0] == "run", figure(w[1]), w[2], figure(w[3]), figure(w[4])
	if !impl.StartOk(s) {
		return "no\n"
	}
	return tellAnswer(impl.RunAll(s)) + "\n"
}

func (c *clerk) checks(loader int, name string) string {
	w, class, fault := impl.WorldLoad(impl.WorldNew(c.start.Loaders), loader, name)
	if fault == (impl.Fault{Code: impl.FaultForm}) {
		return "no\n"
	}
	if fault.Code == 0 {
		_, fault = impl.WorldLink(w, class)
	}
	if fault.Code == 0 {
		return "ok\n"
	}
	return fmt.Sprint("fault ", fault.Code, " ", fault.Name, "\n")
}

// toldBy is a session, told a second time.
func toldBy(lines []string) string {
	c, out := &clerk{}, ""
	for i, line := range lines {
		if i < impl.SessionMax {
			out += c.hear(line)
		}
	}
	return out
}

// anyLine is a line of a session, of loaders and names that may be there.
func anyLine(d *dice) string {
	loader := func() string { return d.pick([]string{"0", "0", "0", "0", "1", "1", "2", "3"}) }
	name := func() string { return d.pick([]string{"A", "B", "M", "M", "M", "M", "Q", "Obj"}) }
	switch d.below(9) {
	case 0:
		return "loader " + d.pick([]string{"-", "0", "1", "2"})
	case 1, 2:
		return fmt.Sprint("way ", loader(), " ", d.pick([]string{"A", "B", "C", "M", "a", "Err"}), " ", loader())
	case 3:
		return fmt.Sprint("pick ", d.below(8), " ", d.pick([]string{"load", "link"}), " ", loader(), " ", name())
	case 4, 5:
		return fmt.Sprint("run ", loader(), " ", name(), " ", d.below(40), " ", d.below(4))
	case 6:
		return fmt.Sprint("trust ", loader(), " ", name(), " ", d.below(310), " ", d.below(22))
	}
	return fmt.Sprint("check ", loader(), " ", name())
}

// anyFile is the lines of a file, mostly of a class that is fine.
func anyFile(d *dice) []string {
	name := d.pick([]string{"A", "A", "B", "C", "M"})
	src := fmt.Sprint("class ", name, " Obj 0\n")
	switch d.below(6) {
	case 0:
		src = fmt.Sprint("class ", name, " ", d.pick([]string{"A", "B", "Q", name}), " 0\n")
	case 1:
		src = randomLines(d)
	case 2, 3:
		return anyMain(d)
	}
	return fileLinesOf(d.below(1+d.below(3)), name, src)
}

// anyMain is the lines of a file of M that can be run.
func anyMain(d *dice) []string {
	return fileLinesOf(d.below(1+d.below(2)), "M", endSources[d.below(len(endSources))].src)
}

// anySession is a session of lines that mostly fit each other; some are turned.
func anySession(d *dice) []string {
	var out []string
	for range 1 + d.below(3) {
		out = append(out, "loader "+d.pick([]string{"-", "-", "0"}))
	}
	if d.below(3) > 0 {
		out = append(out, anyMain(d)...)
	}
	for range d.below(26) {
		if d.below(4) == 0 {
			out = append(out, anyFile(d)...)
		} else {
			out = append(out, anyLine(d))
		}
	}
	for seldom := []int{3, 10, 100, 100000}[d.below(4)]; d.below(seldom) < 2; {
		at := d.below(len(out))
		out[at] = turnedText(d, out[at])
	}
	return out
}

// wantWords wants each word often enough, so that what is held against it is there.
func wantWords(t *testing.T, words map[string]int, all ...string) {
	t.Helper()
	for _, word := range all {
		if words[word] < 5 {
			t.Error("too few", word, words)
		}
	}
}

// Promise 35, and all that is told, of sessions that are made up.
func TestSessionsRandom(t *testing.T) {
	t.Parallel()
	words := map[string]int{}
	for seed := range 4000 {
		lines := anySession(newDice(seed))
		got, want := impl.Session(lines), toldBy(lines)
		if got != want {
			t.Fatalf("seed %d: %q, wanted %q, of\n%s", seed, got, want, strings.Join(lines, "\n"))
		}
		for _, line := range toldLines(got) {
			words[strings.Fields(line)[0]]++
		}
		first := lines[:newDice(seed).below(len(lines)+1)]
		if begins := impl.Session(first); !strings.HasPrefix(got, begins) {
			t.Fatalf("seed %d: %q does not begin with %q", seed, got, begins)
		}
	}
	wantWords(t, words, "ok", "no", "what", "fine", "thrown", "fault", "fuel", "room", "deep", "confused")
}

// Promise 35: each of the first lines tells what it tells ahead of others, and those behind SessionMax tell nothing.
func TestPromiseFirstLines(t *testing.T) {
	t.Parallel()
	for seed := range 30 {
		var lines []string
		for d := newDice(seed); len(lines) < impl.SessionMax+20; {
			lines = append(lines, anySession(d)...)
		}
		whole := impl.Session(lines)
		last := ""
		for n := range len(lines) + 1 {
			now := impl.Session(lines[:n])
			if !strings.HasPrefix(whole, now) || !strings.HasPrefix(now, last) {
				t.Fatalf("seed %d: %d lines tell %q, all %q", seed, n, now, whole)
			}
			if rest := now[len(last):]; strings.Count(rest, "\n") > 1 || n > impl.SessionMax && rest != "" {
				t.Fatalf("seed %d: line %d tells %q", seed, n, rest)
			}
			last = now
		}
		if last != whole || impl.Session(lines[:impl.SessionMax]) != whole {
			t.Fatalf("seed %d: lines behind SessionMax tell something", seed)
		}
		if seed%5 > 0 {
			continue
		}
		turned := append(slices.Clone(lines[:impl.SessionMax]), "loader -", "what", "end")
		if impl.Session(turned) != whole {
			t.Fatalf("seed %d: other lines behind SessionMax tell something", seed)
		}
	}
}

// Promise 36.
func TestPromiseRunsChangeNothing(t *testing.T) {
	t.Parallel()
	answers := map[string]int{}
	for seed := range 1500 {
		d := newDice(seed)
		lines := anySession(d)
		more := d.pick([]string{"run 0 M 99 9", "trust 0 M 99 9", "run 0 A 5 1", "check 0 M", "check 1 A", "run 1 M 300 20", "trust 1 M 300 20", "run 9 M 1 1"})
		before := impl.Session(lines)
		once, ok := strings.CutPrefix(impl.Session(append(slices.Clone(lines), more)), before)
		twice, ok2 := strings.CutPrefix(impl.Session(append(slices.Clone(lines), more, more)), before)
		if len(lines) > impl.SessionMax-2 {
			continue
		}
		if !ok || !ok2 || twice != once+once || strings.Count(once, "\n") > 1 {
			t.Fatalf("seed %d: %s tells %q, then %q", seed, more, once, twice)
		}
		answers[strings.Fields(once + " -")[0]]++
		// Nor does it change what lines behind it tell.
		rest := anySession(d)
		if len(lines)+len(rest) >= impl.SessionMax {
			continue
		}
		without := impl.Session(slices.Concat(lines, rest))[len(before):]
		if with := impl.Session(slices.Concat(lines, []string{more}, rest)); with != before+once+without && once != "" {
			t.Fatalf("seed %d: behind %s is told %q, without it %q", seed, more, with, without)
		}
	}
	wantWords(t, answers, "ok", "no", "fine", "fault", "fuel", "confused", "-")
}

// linesOfStart are lines that tell a start, and the run of it.
func linesOfStart(t *testing.T, d *dice, s impl.Start) []string {
	t.Helper()
	var out, last []string
	for at, l := range s.Loaders {
		out = append(out, "loader "+strings.Replace(strconv.Itoa(l.Parent), "-1", "-", 1))
		for _, f := range l.Files {
			c, ok := impl.FileGet(f.Text)
			if !ok {
				t.Fatal("no class")
			}
			last = append(last, strings.Join(fileLinesOf(at, f.Name, linesOf(c)), "\n"))
		}
		for _, w := range l.Ways {
			last = append(last, fmt.Sprint("way ", at, " ", w.Name, " ", w.To))
		}
	}
	for _, at := range randomOrder(d, len(last)) {
		out = append(out, strings.Split(last[at], "\n")...)
	}
	for _, p := range s.Picks {
		out = append(out, fmt.Sprint("pick ", p.At, []string{"", " load ", " link "}[p.Kind], p.Loader, " ", p.Name))
	}
	word := "trust "
	if s.Prove {
		word = "run "
	}
	return append(out, fmt.Sprint(word, s.Loader, " ", s.Name, " ", s.Fuel, " ", s.Room))
}

// dropFile takes a file away from a start, but the last of all; false, if there is no other one.
func dropFile(d *dice, s *impl.Start) bool {
	var left []int
	for at, l := range s.Loaders {
		many := len(l.Files)
		if at == len(s.Loaders)-1 {
			many--
		}
		left = append(left, slices.Repeat([]int{at}, many)...)
	}
	if len(left) == 0 {
		return false
	}
	files := &s.Loaders[left[d.below(len(left))]].Files
	at := d.below(max(1, len(*files)-1))
	*files = slices.Delete(*files, at, at+1)
	return true
}

// A session tells of a start what RunAll tells.
func TestSessionsOfStarts(t *testing.T) {
	t.Parallel()
	words := map[string]int{}
	for seed := range 1500 {
		d := newDice(seed)
		s := randomStart(d)
		lines := linesOfStart(t, d, s)
		for len(lines) > impl.SessionMax && dropFile(d, &s) {
			lines = linesOfStart(t, d, s)
		}
		if len(lines) > impl.SessionMax {
			continue
		}
		got := toldLines(impl.Session(lines))
		want := tellAnswer(impl.RunAll(s))
		if got[len(got)-1] != want || slices.ContainsFunc(got[:len(got)-1], func(line string) bool { return line != "ok" }) {
			t.Fatalf("seed %d: %q, wanted %q, of\n%s", seed, got, want, strings.Join(lines, "\n"))
		}
		words[strings.Fields(want)[0]]++
	}
	wantWords(t, words, "fine", "thrown", "fault", "fuel", "room", "deep")
}

// Session answers at everything, in new memory, writes into no argument, and keeps nothing.
func TestSessionCalm(t *testing.T) {
	t.Parallel()
	last, lastLines := "", []string(nil)
	try := func(lines []string) {
		t.Helper()
		lines = roomy(reflect.ValueOf(lines)).Interface().([]string)
		before := frozen(lines)
		var got string
		calm(t, "Session", func() { got = impl.Session(lines) })
		if frozen(lines) != before {
			t.Fatal("Session writes into its argument")
		}
		wantNew(t, "Session", got, lines)
		if got != toldBy(lines) {
			t.Fatalf("%q tell %q", lines, got)
		}
		if lastLines != nil && impl.Session(lastLines) != last {
			t.Fatalf("%q tell another thing again", lastLines)
		}
		last, lastLines = got, lines
	}
	try(nil)
	for seed := range 500 {
		d := newDice(seed)
		try([]string{d.text(d.below(60))})
		try(strings.Split(d.text(d.below(60))+" "+d.text(20)+"\n", "\n"))
		lines := anySession(d)
		for range 1 + d.below(20) {
			at := d.below(len(lines))
			lines[at] = turnedText(d, lines[at])
			if d.below(10) == 0 {
				lines = slices.Delete(lines, at, at+1)
			}
			if len(lines) == 0 {
				break
			}
		}
		try(lines)
		try(append(lines, "file 0 A", strings.Repeat("x", 10000), strings.Repeat(" ", 10000), "end", strings.Repeat("loader ", 3000)))
		try([]string{"loader -", "file 0 A", "class A Obj 0\nmethod f ()V 1 0 0\n  give", "end", "check 0 A"})
	}
}
