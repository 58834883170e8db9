package tests

import (
	"fmt"
	"math"
	"math/rand"
	"slices"
	"strings"
	"testing"
	"unsafe"

	"loop.example/g00230/impl"
)

// checkCuts cuts a script behind each of its line feeds: two parts do what it does in one. It tells how many cuts there were.
func checkCuts(t *testing.T, w impl.World, text string) int {
	t.Helper()
	whole := impl.RunScript(w, text)
	if whole.Code != impl.OK {
		t.Fatalf("%q tells the code %d", text, whole.Code)
	}
	cuts := 0
	for at, b := range []byte(text) {
		if b != 10 {
			continue
		}
		first := impl.RunScript(w, text[:at+1])
		second := impl.RunScript(first.World, text[at+1:])
		if first.Code != impl.OK || second.Code != impl.OK {
			t.Fatalf("%q and then %q tell the codes %d and %d", text[:at+1], text[at+1:], first.Code, second.Code)
		}
		if first.Said+second.Said != whole.Said {
			t.Fatalf("%q and then %q say %q and %q, the whole %q", text[:at+1], text[at+1:], first.Said, second.Said, whole.Said)
		}
		if !sameWorld(second.World, whole.World) {
			t.Fatalf("%q and then %q of %+v make %+v, the whole %+v", text[:at+1], text[at+1:], w, second.World, whole.World)
		}
		cuts++
	}
	return cuts
}

// Scripts of all kinds of lines, from new worlds and from others, each cut behind each line feed.
func TestPromise17CutAnywhere(t *testing.T) {
	draw := rand.New(rand.NewSource(1700))
	cuts, said := 0, map[string]int{}
	for i, w := range append(runningWorlds(40, 1701), newWorlds(60)...) {
		text := drawnScript(draw, w, 1+i%30)
		cuts += checkCuts(t, w, text)
		for _, line := range linesModel(text) {
			switch got := impl.StepScript(w, line); {
			case line == "":
				said["an empty line"]++
			case strings.Trim(line, " ") == "":
				said["a line of blanks"]++
			case got.Code == impl.OK:
				said["a line without a code"]++
			default:
				said["a line with a code"]++
			}
		}
	}
	if cuts < 1000 {
		t.Errorf("only %d cuts", cuts)
	}
	for _, kind := range []string{"an empty line", "a line of blanks", "a line without a code", "a line with a code"} {
		if said[kind] < 20 {
			t.Errorf("%s came only %d times", kind, said[kind])
		}
	}
}

func newWorlds(count int64) (out []impl.World) {
	for key := range count {
		out = append(out, impl.NewWorld(1+key, 999999-key).World)
	}
	return out
}

// Every script of three lines of each kind, with a line feed behind the last one and without.
func TestPromise17EveryThreeLines(t *testing.T) {
	lines := []string{"", "  ", "tick", "dial 0 3", "write 0 hey", "end 0", "take 0", "lose 0", "run 5", "read 1 9", "show", "wink", "read 1 1001"}
	for _, w := range []impl.World{impl.NewWorld(5, 7).World, doingWorld()} {
		for _, a := range lines {
			for _, b := range lines {
				for _, c := range lines {
					checkCuts(t, w, a+"\n"+b+"\n"+c)
					checkCuts(t, w, a+"\n"+b+"\n"+c+"\n")
				}
			}
		}
	}
}

// As many lines and as many bytes as may be, of one kind alone and mixed.
func TestPromise17AsMuchAsMayBe(t *testing.T) {
	long := strings.Repeat("write 1 "+strings.Repeat("x", 16)+"\n", 60)
	for _, text := range []string{
		strings.Repeat("\n", 60),
		strings.Repeat("  \n", 60),
		strings.Repeat("tick\n", 60),
		strings.Repeat("tick\n", 59) + "tick",
		strings.Repeat("wink\n", 60),
		strings.Repeat("show\n", 60),
		strings.Repeat("\nshow\n \nwink\ntick\n", 12),
		strings.Repeat("run 30\nread 1 9\n", 30),
		long,
		long[:len(long)-1],
		"write 0 " + strings.Repeat("q", 290) + "\n" + strings.Repeat("run 1\nread 1 8\nshow\n", 19) + strings.Repeat(" ", 1500-299-19*20),
	} {
		if len(text) > 1500 || len(linesModel(text)) > 60 {
			t.Fatalf("%q is too much", text)
		}
		for _, w := range []impl.World{impl.NewWorld(5, 7).World, openWorld(1)} {
			if cuts := checkCuts(t, w, text); cuts != strings.Count(text, "\n") {
				t.Errorf("%q was cut %d times", text, cuts)
			}
		}
	}
}

// In as many parts as there are lines it is the same, too; each line by itself tells what StepScript tells of it.
func TestPromise17LineByLine(t *testing.T) {
	draw := rand.New(rand.NewSource(1702))
	for _, w := range append(runningWorlds(30, 1703), newWorlds(30)...) {
		text := drawnScript(draw, w, 25)
		whole := impl.RunScript(w, text)
		said, in := "", w
		for line := range strings.SplitAfterSeq(text, "\n") {
			part := impl.RunScript(in, line)
			step := impl.StepScript(in, strings.TrimSuffix(line, "\n"))
			want := step.Said
			switch {
			case step.Code != impl.OK:
				want, step.World = fmt.Sprintf("! %d\n", step.Code), in
			case want != "" && !strings.HasSuffix(want, "\n"):
				want += "\n"
			}
			if part.Code != impl.OK || part.Said != want || !sameWorld(part.World, step.World) {
				t.Fatalf("RunScript of %q alone = %+v, StepScript of it %+v", line, part, step)
			}
			said, in = said+part.Said, part.World
		}
		if said != whole.Said || !sameWorld(in, whole.World) {
			t.Fatalf("%q says %q, line by line %q", text, whole.Said, said)
		}
	}
}

// Promise 14, by scripts: behind an end nothing more is written, whatever happens meanwhile.
func TestPromise14ScriptsBehindAnEnd(t *testing.T) {
	draw := rand.New(rand.NewSource(1704))
	others := 0
	for i, w := range append(runningWorlds(60, 1705), newWorlds(40)...) {
		side := i % 2
		ended := impl.RunScript(w, fmt.Sprintf("end %d\n", side))
		between := impl.RunScript(ended.World, drawnScript(draw, ended.World, i%12))
		if ended.Code != impl.OK || between.Code != impl.OK || !between.World.Sides[side].Fin {
			t.Fatalf("behind an end: %+v", between)
		}
		for _, word := range []string{"x", "hello", "0", "end", strings.Repeat("y", 301), drawnWord(draw)} {
			line := fmt.Sprintf("write %d %s", side, word)
			if got := impl.StepScript(between.World, line); !sameScript(got, impl.ScriptResult{Code: impl.ErrState}) {
				t.Fatalf("%q behind an end: %+v", line, got)
			}
			got := impl.RunScript(between.World, line+"\n\n"+line)
			if want := (impl.ScriptResult{World: between.World, Said: "! 10\n! 10\n"}); !sameScript(got, want) {
				t.Fatalf("%q behind an end: %+v", line, got)
			}
		}
		if other := between.World.Sides[1-side]; !other.Fin && len(other.Wrote) < 300 {
			others++
			if got := impl.StepScript(between.World, fmt.Sprintf("write %d x", 1-side)); got.Said != "ok" || !sameWorld(got.World, impl.WriteWorld(between.World, int64(1-side), []byte("x")).World) {
				t.Fatalf("a write where the other side ended: %+v", got)
			}
		}
	}
	if others < 20 {
		t.Errorf("only %d sides could write on", others)
	}
}

// Promise 16, by scripts: rounds that are run in two parts are as if in one.
func TestPromise16ScriptsInTwoParts(t *testing.T) {
	draw := rand.New(rand.NewSource(1706))
	check := func(w impl.World, a int64, b int64) {
		t.Helper()
		parts, whole := impl.RunScript(w, fmt.Sprintf("run %d\nrun %d\n", a, b)), impl.RunScript(w, fmt.Sprintf("run %d\n", a+b))
		if parts.Said != "ok\nok\n" || whole.Said != "ok\n" || !sameWorld(parts.World, whole.World) || whole.World.Now != w.Now+a+b {
			t.Fatalf("run %d and run %d of %+v make %+v, run %d %+v", a, b, w, parts, a+b, whole)
		}
	}
	for i, w := range append(runningWorlds(60, 1707), newWorlds(10)...) {
		w = turned(w, func(w *impl.World) { w.Now = min(w.Now, 99000) })
		w = impl.RunScript(w, drawnScript(draw, w, i%20)).World
		for _, parts := range [][2]int64{{0, 0}, {0, 5}, {5, 0}, {1, 1}, {draw.Int63n(20), draw.Int63n(20)}} {
			check(w, parts[0], parts[1])
		}
		if i%10 == 0 {
			check(w, 1, 199)
			check(w, 200, 0)
			check(turned(w, func(w *impl.World) { w.Now = 99993 }), 3, 4)
		}
	}
}

// Promise 1, of the functions of the chapter.

// scriptLines are one of each command at least, with codes and without, and some that are none.
func scriptLines() []string {
	return []string{"", "  ", "dial 0 3", "dial 1 3", "dial 3 3", "write 0 hello", "write 1 x", "write 2 x", "end 0", "end 1", "tick", "take 0", "take 1", "take 999999", "lose 0", "copy 0", "strip 0", "alter 0 0 1", "kill 0", "kill 2", "run 0", "run 2", "run 201", "read 0 9", "read 1 2", "read 1 1001", "show", "wink", "a\nb"}
}

func scriptTexts() []string {
	return []string{"", "\n", "  ", "show", "wink\n", "dial 0 3\nrun 3\nwrite 0 hello\nrun 3\nread 1 9\nend 0\nrun 6\nread 1 9\nshow\n", "tick\nend 2\ntick", strings.Repeat("\n", 61), strings.Repeat(" ", 1501)}
}

// scriptsOf are calls that answer a world, with what is said as Data.
func scriptsOf(w impl.World, _ []byte) map[string]func() impl.WorldResult {
	worldOfScript := func(r impl.ScriptResult) impl.WorldResult {
		return impl.WorldResult{Code: r.Code, Data: []byte(r.Said), World: r.World}
	}
	calls := map[string]func() impl.WorldResult{}
	for _, line := range scriptLines() {
		calls[fmt.Sprintf("StepScript of %q", line)] = func() impl.WorldResult { return worldOfScript(impl.StepScript(w, line)) }
	}
	for _, text := range scriptTexts() {
		calls[fmt.Sprintf("RunScript of %q", text)] = func() impl.WorldResult { return worldOfScript(impl.RunScript(w, text)) }
	}
	return calls
}

// scriptWorlds are of each kind, with faults and without.
func scriptWorlds() (out []impl.World) {
	for i, w := range runWorlds() {
		if i%4 == 0 {
			out = append(out, w)
		}
	}
	return append(out, doingWorld(), openWorld(1), impl.NewWorld(5, 7).World)
}

func TestPromise1ScriptsChangeNothing(t *testing.T) {
	worlds := slices.Concat(scriptWorlds(), sharingWorlds())
	checkNothingChanged(t, scriptsOf, worlds)
	for _, w := range worlds {
		k := keepWorld(w, nil)
		impl.WorldText(k.w)
		k.check(t, "WorldText")
	}
}

func TestPromise1ScriptsAreNewMemory(t *testing.T) {
	checkNewMemory(t, scriptsOf, scriptWorlds())
}

func TestPromise1ScriptsStayWhereArgumentsTurn(t *testing.T) {
	checkStay(t, scriptsOf, scriptWorlds())
	for _, w := range scriptWorlds() {
		k := keepWorld(w, nil)
		got, want := impl.WorldText(k.w), worldTextModel(w)
		k.spoilAll()
		if got != want {
			t.Fatalf("WorldText of %+v turns with its arguments: %+v, was %+v", w, got, want)
		}
	}
}

func TestPromise1ListsOfOneScriptAreApart(t *testing.T) {
	for _, w := range append(sharingWorlds(), doingWorld(), calmWorld(false), readingWorld(0, 6, false)) {
		for name, call := range scriptsOf(w, nil) {
			checkWorldApart(t, name, call)
		}
	}
}

func TestPromise1ScriptsSameArgumentsSameAnswers(t *testing.T) {
	worlds := scriptWorlds()
	checkSameAgain(t, scriptsOf, worlds)
	for _, w := range worlds {
		if impl.WorldText(w) != worldTextModel(w) {
			t.Fatalf("WorldText of %+v is another one than it was", w)
		}
	}
}

func TestPromise1EmptyScriptsAndNil(t *testing.T) {
	checkEmptyAndNil(t, scriptsOf, scriptWorlds())
	for _, w := range scriptWorlds() {
		if impl.WorldText(emptiedWorld(w, true)) != impl.WorldText(emptiedWorld(w, false)) {
			t.Fatalf("WorldText of %+v tells nil and an empty list apart", w)
		}
	}
	if impl.LetterText(nil) != impl.LetterText([]byte{}) {
		t.Error("LetterText tells nil and an empty list apart")
	}
}

// Every function answers at every argument, and with a code all else is zero.
func TestPromise1ScriptsAnswerEverywhere(t *testing.T) {
	checkAll := func(w impl.World) {
		t.Helper()
		fault := worldFaultModel(w)
		for name, call := range scriptsOf(w, nil) {
			got := call()
			if fault != impl.OK && got.Code != fault || got.Code != impl.OK && !sameWorlds(got, impl.WorldResult{Code: got.Code}) || got.Code == impl.OK && impl.WorldFault(got.World) != impl.OK {
				t.Fatalf("%s of %+v = %+v", name, w, got)
			}
		}
		if got := impl.WorldText(w); got != worldTextModel(w) {
			t.Fatalf("WorldText of %+v = %+v", w, got)
		}
	}
	for _, w := range scriptWorlds() {
		checkAll(w)
	}
	base := plainWorld()
	for i, c := range append(wrongConns(), impl.Conn{Side: math.MinInt64, Given: math.MaxInt64, FinIn: math.MinInt64, Acked: math.MinInt64}) {
		checkAll(turned(base, func(w *impl.World) { w.Sides[i%2] = c }))
	}
}

// Lines and scripts of any bytes, and greater ones than any may be.
func TestPromise1ScriptsOfAnyBytes(t *testing.T) {
	draw := rand.New(rand.NewSource(1708))
	w := doingWorld()
	codes := map[int64]int{}
	check := func(text string) {
		t.Helper()
		if got, want := impl.StepScript(w, text), stepScriptModel(w, text); !sameScript(got, want) {
			t.Fatalf("StepScript of %q = %+v, want %+v", text, got, want)
		}
		got, want := impl.RunScript(w, text), runScriptModel(w, text)
		if !sameScript(got, want) {
			t.Fatalf("RunScript of %q = %+v, want %+v", text, got, want)
		}
		codes[got.Code]++
	}
	for range 1000 {
		text := make([]byte, draw.Intn([]int{8, 40, 1600}[draw.Intn(3)]))
		draw.Read(text)
		check(string(text))
		// Bytes of scripts alone: what comes of them is nearer to commands.
		for i := range text {
			text[i] = "tick show\n\nrun 12 end 0 \xff"[draw.Intn(25)]
		}
		check(string(text))
	}
	check(strings.Repeat("tick ", 100000))
	check(strings.Repeat("tick\n", 100000))
	check("run " + strings.Repeat("9", 100000))
	check("write 0 " + strings.Repeat("x", 100000))
	if codes[impl.OK] < 500 || codes[impl.ErrMany] < 100 {
		t.Errorf("the codes came %v times", codes)
	}
}

func TestPromise1LettersAreNewMemory(t *testing.T) {
	// Bytes that are no letters are told as others, and stay themselves in the argument.
	signs := slices.Repeat([]byte("aZ{`0\x00\xff "), 50)
	for _, data := range append(dataRows(), lettersOf(400), lettersOf(401), signs, append(signs, 'A'), []byte("A"), nil) {
		back, part := roomy(data)
		kept := slices.Clone(back)
		got := impl.LetterText(part)
		if !slices.Equal(back, kept) {
			t.Fatalf("LetterText changed %q to %q", kept, back)
		}
		was := strings.Clone(got.Text)
		spoil(back)
		if got.Text != was {
			t.Fatalf("LetterText turns with its argument: %q, was %q", got.Text, was)
		}
		spoil(back)
		if again := impl.LetterText(part); again != got {
			t.Fatalf("LetterText = %+v, then %+v", got, again)
		}
	}
}

// A word is no part of the line that it came from, and a list that is written over stays out of the next one.
func TestPromise1WordsAreNewMemory(t *testing.T) {
	for _, line := range []string{"", " ", "word", "write 0 hello", "   first     second third  ", strings.Repeat("a b ", 400)} {
		got := impl.WordsOf(line)
		was := slices.Clone(got.Words)
		start := uintptr(unsafe.Pointer(unsafe.StringData(line)))
		for _, word := range got.Words {
			if at := uintptr(unsafe.Pointer(unsafe.StringData(word))); at >= start && at < start+uintptr(len(line)) {
				t.Fatalf("a word of %q is the line's own memory", line)
			}
		}
		for i := range got.Words[:cap(got.Words)] {
			got.Words[:cap(got.Words)][i] = "spoilt"
		}
		for range 2 {
			if again := impl.WordsOf(line); again.Code != impl.OK || !slices.Equal(again.Words, was) {
				t.Fatalf("WordsOf of %q = %q, then %q", line, was, again.Words)
			}
		}
	}
}
