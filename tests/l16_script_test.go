package tests

import (
	"fmt"
	"math/rand"
	"regexp"
	"slices"
	"strconv"
	"strings"
	"testing"

	"loop.example/g00230/impl"
)

func sameScript(a impl.ScriptResult, b impl.ScriptResult) bool {
	return a.Code == b.Code && a.Said == b.Said && sameWorld(a.World, b.World)
}

func wordsModel(line string) []string {
	return slices.DeleteFunc(strings.Split(line, " "), func(word string) bool { return word == "" })
}

func lettersModel(data []byte) string {
	out := ""
	for _, b := range data {
		if at := strings.IndexByte("abcdefghijklmnopqrstuvwxyz", b); at >= 0 {
			out += string("abcdefghijklmnopqrstuvwxyz"[at])
		} else {
			out += "."
		}
	}
	return out
}

// textModel is only for worlds without a fault.
func textModel(w impl.World) string {
	out := fmt.Sprintf("now %d\n", w.Now)
	for side, c := range w.Sides {
		kind := map[bool]string{false: "multi", true: "plain"}[c.Plain]
		out += fmt.Sprintf("side %d %d %d %d %s", side, len(c.Wrote), len(w.Got[side]), c.Acked, kind)
		for _, x := range c.Subs {
			out += fmt.Sprintf(" %d:%d", x.Path, x.State)
		}
		out += "\n"
	}
	return out + fmt.Sprintf("bag %d\n", len(w.Net.Bag))
}

func worldTextModel(w impl.World) impl.TextResult {
	if fault := worldFaultModel(w); fault != impl.OK {
		return impl.TextResult{Code: fault}
	}
	return impl.TextResult{Text: textModel(w)}
}

// commandModel is a command as its words with one blank between, and what it does with the numbers in it, and with a word to write.
type commandModel struct {
	form *regexp.Regexp
	do   func(w impl.World, n []int64, word string) impl.ScriptResult
}

// formModel has # for a number, and @ for a word to write.
func formModel(form string) *regexp.Regexp {
	form = strings.ReplaceAll(form, "#", "([0-9]{1,6})")
	return regexp.MustCompile("^" + strings.ReplaceAll(form, "@", "([^ ]+)") + "$")
}

func okModel(got impl.WorldResult) impl.ScriptResult {
	if got.Code != impl.OK {
		return impl.ScriptResult{Code: got.Code}
	}
	return impl.ScriptResult{World: got.World, Said: "ok"}
}

func readLineModel(w impl.World, n []int64, word string) impl.ScriptResult {
	got := readWorldModel(w, n[0], n[1])
	out := okModel(got)
	if got.Code != impl.OK {
		return out
	}
	out.Said = "got " + lettersModel(got.Data)
	if got.World.Ended[n[0]] {
		out.Said += " end"
	}
	return out
}

func runLineModel(w impl.World, n []int64, word string) impl.ScriptResult {
	if code := runCodeModel(w, n[0]); code != impl.OK {
		return impl.ScriptResult{Code: code}
	}
	for range n[0] {
		w = roundModel(w).World
	}
	return impl.ScriptResult{World: w, Said: "ok"}
}

func meddleLineModel(kind int64) func(w impl.World, n []int64, word string) impl.ScriptResult {
	return func(w impl.World, n []int64, word string) impl.ScriptResult {
		n = append(slices.Clone(n), 0, 0)
		return okModel(meddleModel(w, kind, n[0], n[1], n[2]))
	}
}

func commandModels() []commandModel {
	return []commandModel{
		{formModel("dial # #"), func(w impl.World, n []int64, word string) impl.ScriptResult {
			return okModel(dialWorldModel(w, n[0], n[1]))
		}},
		{formModel("write # @"), func(w impl.World, n []int64, word string) impl.ScriptResult {
			return okModel(writeWorldModel(w, n[0], []byte(word)))
		}},
		{formModel("end #"), func(w impl.World, n []int64, word string) impl.ScriptResult {
			return okModel(endWorldModel(w, n[0]))
		}},
		{formModel("tick"), func(w impl.World, n []int64, word string) impl.ScriptResult {
			return okModel(tickModel(w))
		}},
		{formModel("take #"), func(w impl.World, n []int64, word string) impl.ScriptResult {
			return okModel(deliverModel(w, n[0]))
		}},
		{formModel("lose #"), meddleLineModel(1)},
		{formModel("copy #"), meddleLineModel(2)},
		{formModel("strip #"), meddleLineModel(3)},
		{formModel("alter # # #"), meddleLineModel(4)},
		{formModel("kill #"), meddleLineModel(5)},
		{formModel("run #"), runLineModel},
		{formModel("read # #"), readLineModel},
		{formModel("show"), func(w impl.World, n []int64, word string) impl.ScriptResult {
			return impl.ScriptResult{World: w, Said: textModel(w)}
		}},
	}
}

func stepScriptModel(w impl.World, line string) impl.ScriptResult {
	if fault := worldFaultModel(w); fault != impl.OK {
		return impl.ScriptResult{Code: fault}
	}
	if strings.Count(line, "\n") > 0 {
		return impl.ScriptResult{Code: impl.ErrText}
	}
	line = strings.Join(wordsModel(line), " ")
	if line == "" {
		return impl.ScriptResult{World: w}
	}
	for _, c := range commandModels() {
		parts := c.form.FindStringSubmatch(line)
		if parts == nil {
			continue
		}
		var n []int64
		word := parts[len(parts)-1]
		for _, part := range parts[1:] {
			if value, err := strconv.Atoi(part); err == nil {
				n = append(n, int64(value))
			}
		}
		return c.do(w, n, word)
	}
	return impl.ScriptResult{Code: impl.ErrText}
}

// linesModel goes byte by byte, so that it shares nothing with how the program finds them.
func linesModel(text string) (out []string) {
	var line []byte
	for _, b := range []byte(text) {
		if b == 10 {
			out, line = append(out, string(line)), nil
			continue
		}
		line = append(line, b)
	}
	if len(line) > 0 {
		out = append(out, string(line))
	}
	return out
}

func runScriptModel(w impl.World, text string) impl.ScriptResult {
	if fault := worldFaultModel(w); fault != impl.OK {
		return impl.ScriptResult{Code: fault}
	}
	lines := linesModel(text)
	if len(text) >= 1501 || len(lines) >= 61 {
		return impl.ScriptResult{Code: impl.ErrMany}
	}
	run := impl.ScriptResult{World: w}
	for _, line := range lines {
		step := stepScriptModel(run.World, line)
		switch {
		case step.Code != impl.OK:
			run.Said += fmt.Sprintf("! %d\n", step.Code)
			continue
		case step.Said != "":
			run.Said += strings.TrimSuffix(step.Said, "\n") + "\n"
		}
		run.World = step.World
	}
	return run
}

func TestScriptConstants(t *testing.T) {
	if impl.MaxScript != 1500 || impl.MaxLines != 60 {
		t.Error("a constant of chapter 16 is not as the document has it")
	}
}

func TestWordsOf(t *testing.T) {
	for _, row := range []struct {
		line string
		want []string
	}{
		{"", nil},
		{" ", nil},
		{"     ", nil},
		{"a", []string{"a"}},
		{"word", []string{"word"}},
		{" word", []string{"word"}},
		{"word ", []string{"word"}},
		{"   word   ", []string{"word"}},
		{"a b", []string{"a", "b"}},
		{"a  b", []string{"a", "b"}},
		{"   first     second third  ", []string{"first", "second", "third"}},
		{"b a b", []string{"b", "a", "b"}},
		{"a\tb", []string{"a\tb"}},
		{"\t", []string{"\t"}},
		{" \t ", []string{"\t"}},
		{"a\nb", []string{"a\nb"}},
		{"\n", []string{"\n"}},
		{"a \n b", []string{"a", "\n", "b"}},
		{"a\r\n b", []string{"a\r\n", "b"}},
		{"\x00", []string{"\x00"}},
		{"\x00 \x00\x00", []string{"\x00", "\x00\x00"}},
		{"\v\f\x1f!", []string{"\v\f\x1f!"}},
		{"\x80\xff \xa0", []string{"\x80\xff", "\xa0"}},
		{"a\u00a0b\u3000c\u2028d", []string{"a\u00a0b\u3000c\u2028d"}},
		{"\u00fc \u4e16", []string{"\u00fc", "\u4e16"}},
		{"dial 0 3", []string{"dial", "0", "3"}},
	} {
		if got := impl.WordsOf(row.line); got.Code != impl.OK || !slices.Equal(got.Words, row.want) {
			t.Errorf("WordsOf of %q = %+v, want %q", row.line, got, row.want)
		}
	}
}

// Each byte alone between two blanks, and between two words: a blank alone parts them.
func TestWordsOfEveryByte(t *testing.T) {
	for b := range 256 {
		alone, between := " "+string([]byte{byte(b)})+" ", "x"+string([]byte{byte(b)})+"y"
		wantAlone, wantBetween := []string{alone[1:2]}, []string{between}
		if b == 32 {
			wantAlone, wantBetween = nil, []string{"x", "y"}
		}
		if got := impl.WordsOf(alone); got.Code != impl.OK || !slices.Equal(got.Words, wantAlone) {
			t.Errorf("WordsOf of %q = %+v", alone, got)
		}
		if got := impl.WordsOf(between); got.Code != impl.OK || !slices.Equal(got.Words, wantBetween) {
			t.Errorf("WordsOf of %q = %+v", between, got)
		}
	}
}

// Every line of a few bytes, and long ones.
func TestWordsOfAgainstModel(t *testing.T) {
	check := func(line string) {
		t.Helper()
		if got, want := impl.WordsOf(line), wordsModel(line); got.Code != impl.OK || !slices.Equal(got.Words, want) {
			t.Fatalf("WordsOf of %q = %q, want %q", line, got.Words, want)
		}
	}
	lines := []string{""}
	for range 7 {
		var longer []string
		for _, line := range lines {
			check(line)
			longer = append(longer, line+" ", line+"a", line+"\xc2")
		}
		lines = longer
	}
	draw := rand.New(rand.NewSource(1600))
	for range 300 {
		line := make([]byte, draw.Intn(4000))
		for i := range line {
			line[i] = " a\t\n\x00\xc2\xa0"[draw.Intn(7)]
		}
		check(string(line))
	}
	check(strings.Repeat(" ", 5000))
	check(strings.Repeat("a", 5000))
}

func TestLetterText(t *testing.T) {
	for _, row := range []struct{ data, want string }{
		{"", ""},
		{"a", "a"},
		{"z", "z"},
		{"abcdefghijklmnopqrstuvwxyz", "abcdefghijklmnopqrstuvwxyz"},
		{"`az{", ".az."},
		{"AZ", ".."},
		{"ABCDEFGHIJKLMNOPQRSTUVWXYZ", ".........................."},
		{"@[", ".."},
		{"0123456789", ".........."},
		{"hello world", "hello.world"},
		{"Hello, World!", ".ello...orld."},
		{"a\tb\nc\x00d", "a.b.c.d"},
		{"...", "..."},
		{"\u00e4", ".."},
		{"a\u00fcb", "a..b"},
		{"\xe1\xfa", ".."},
		{"\x80\xff", ".."},
	} {
		if got := impl.LetterText([]byte(row.data)); got != (impl.TextResult{Text: row.want}) {
			t.Errorf("LetterText of %q = %+v, want %q", row.data, got, row.want)
		}
	}
	if got := impl.LetterText(nil); got != (impl.TextResult{}) {
		t.Errorf("LetterText of nil = %+v", got)
	}
}

func TestLetterTextOfEveryByte(t *testing.T) {
	var all []byte
	for b := range 256 {
		data := []byte{byte(b)}
		if got := impl.LetterText(data); got != (impl.TextResult{Text: lettersModel(data)}) {
			t.Errorf("LetterText of %d = %+v", b, got)
		}
		all = append(all, byte(b))
	}
	want := strings.Repeat(".", 97) + "abcdefghijklmnopqrstuvwxyz" + strings.Repeat(".", 133)
	if got := impl.LetterText(all); got.Code != impl.OK || got.Text != want {
		t.Errorf("LetterText of every byte = %+v", got)
	}
}

func TestLetterTextOfMany(t *testing.T) {
	for count, code := range map[int]int64{1: impl.OK, 300: impl.OK, 399: impl.OK, 400: impl.OK, 401: impl.ErrMany, 402: impl.ErrMany, 800: impl.ErrMany, 70000: impl.ErrMany} {
		for _, b := range []byte{'q', 'Q'} {
			data := slices.Repeat([]byte{b}, count)
			want := impl.TextResult{Code: code}
			if code == impl.OK {
				want.Text = lettersModel(data)
			}
			if got := impl.LetterText(data); got != want {
				t.Errorf("LetterText of %d bytes = %+v, want %+v", count, got, want)
			}
		}
	}
}

func TestWorldText(t *testing.T) {
	const asked, answered, open, closed = impl.SubAsked, impl.SubAnswered, impl.SubOpen, impl.SubClosed
	none := netWith(deadMarks(0))
	mine, hers := impl.NewConn(0, 5).Conn, impl.NewConn(1, 7).Conn
	written := worldOf(99, connAt(0), connAt(1), netWith(deadMarks(2), manySegmentsOn(7, 0, 2)...))
	for side := range written.Sides {
		c := &written.Sides[side]
		c.Wrote, c.Acked = lettersOf(300-side*200), int64(299-side*292)
		c.In, c.Given = gatherWith(string(lettersOf(12))), int64(11-side*10)
		written.Got[side] = lettersOf(12)[:c.Given]
	}
	plain := turned(worldOf(5, connAt(0, pathsOf(2, open)...), connAt(1, pathsOf(2, answered)...), none), func(w *impl.World) { w.Sides[1].Plain = true })
	for _, row := range []struct {
		name string
		w    impl.World
		want string
	}{
		{"a new world", impl.NewWorld(5, 7).World, "now 0\nside 0 0 0 0 multi\nside 1 0 0 0 multi\nbag 0\n"},
		{"one that is asked for", impl.DialWorld(impl.NewWorld(5, 7).World, 2, 3).World, "now 0\nside 0 0 0 0 multi 2:1\nside 1 0 0 0 multi\nbag 1\n"},
		{"one that is open", openWorld(1), "now 0\nside 0 0 0 0 multi 1:3\nside 1 0 0 0 multi 1:3\nbag 0\n"},
		{"the last tick", turned(openWorld(0), func(w *impl.World) { w.Now = 100000 }), "now 100000\nside 0 0 0 0 multi 0:3\nside 1 0 0 0 multi 0:3\nbag 0\n"},
		{"one at the side 1 alone", turned(worldOf(4, mine, connAt(1, pathsOf(0, answered)...), none), emptyStreams), "now 4\nside 0 0 0 0 multi\nside 1 0 0 0 multi 0:2\nbag 0\n"},
		{"subs in their order", turned(worldOf(10, connAt(0, pathsOf(2, open, closed, asked)...), connAt(1, pathsOf(1, closed, answered, open)...), none), emptyStreams), "now 10\nside 0 0 0 0 multi 2:3 0:4 1:1\nside 1 0 0 0 multi 1:4 2:2 0:3\nbag 0\n"},
		{"as many as may be", turned(worldOf(10, mine, hers, netWith(deadMarks(0), manySegmentsOn(60, 0, 1, 2)...)), emptyStreams), "now 10\nside 0 0 0 0 multi\nside 1 0 0 0 multi\nbag 60\n"},
		{"written, got and known", written, "now 99\nside 0 300 11 299 multi\nside 1 100 1 7 multi\nbag 7\n"},
		{"a plain side", turned(plain, emptyStreams), "now 5\nside 0 0 0 0 multi 2:3\nside 1 0 0 0 plain 2:2\nbag 0\n"},
		{"both plain", turned(plain, func(w *impl.World) { emptyStreams(w); w.Sides[0].Plain = true }), "now 5\nside 0 0 0 0 plain 2:3\nside 1 0 0 0 plain 2:2\nbag 0\n"},
		{"the other one plain, with no subs", turned(worldOf(0, mine, hers, none), func(w *impl.World) { w.Sides[0].Plain = true }), "now 0\nside 0 0 0 0 plain\nside 1 0 0 0 multi\nbag 0\n"},
	} {
		if fault := impl.WorldFault(row.w); fault != impl.OK {
			t.Fatalf("%s has the fault %d: %+v", row.name, fault, row.w)
		}
		if got := impl.WorldText(row.w); got != (impl.TextResult{Text: row.want}) {
			t.Errorf("%s: %+v, want %q", row.name, got, row.want)
		}
	}
}

// emptyStreams leaves the paths as they are, and nothing written or read.
func emptyStreams(w *impl.World) {
	for side := range w.Sides {
		c := &w.Sides[side]
		c.Wrote, c.Acked, c.Fin, c.FinDone = nil, 0, false, false
		c.In, c.FinIn, c.Given, w.Got[side] = impl.Gather{}, -1, 0, nil
	}
}

func TestWorldTextAgainstModel(t *testing.T) {
	plain, several, bags := 0, 0, 0
	for _, w := range runningWorlds(500, 1601) {
		got := impl.WorldText(w)
		if want := worldTextModel(w); got != want {
			t.Fatalf("WorldText of %+v = %+v, want %+v", w, got, want)
		}
		if strings.Count(got.Text, "\n") != 4 || !strings.HasSuffix(got.Text, "\n") || strings.Contains(got.Text, "  ") || strings.Contains(got.Text, " \n") {
			t.Fatalf("WorldText of %+v = %q", w, got.Text)
		}
		for _, c := range w.Sides {
			if c.Plain {
				plain++
			}
			if len(c.Subs) > 1 {
				several++
			}
		}
		if len(w.Net.Bag) > 0 {
			bags++
		}
	}
	if plain < 50 || several < 50 || bags < 50 {
		t.Errorf("%d sides were plain, %d had several subs, %d worlds a Bag", plain, several, bags)
	}
}

func TestWorldTextOfAFault(t *testing.T) {
	for _, row := range worldRows() {
		got := impl.WorldText(row.w)
		if got.Code != row.want || row.want != impl.OK && got.Text != "" {
			t.Errorf("WorldText of %s: %+v, want the code %d", row.name, got, row.want)
		}
	}
}

// doingWorld is one in which each command has something to do: the side 1 can read, loads of both sides are on their way over the path 0, and another path may be asked for.
func doingWorld() impl.World {
	w := impl.WriteWorld(openWorld(0), 0, []byte("old Things")).World
	w = impl.RunWorld(w, 3).World
	w = impl.WriteWorld(impl.WriteWorld(w, 0, []byte("news")).World, 1, []byte("yes")).World
	return impl.TickWorld(w).World
}

func TestDoingWorld(t *testing.T) {
	w := doingWorld()
	if bag := w.Net.Bag; len(bag) != 2 || string(bag[0].Load) != "news" || string(bag[1].Load) != "yes" || string(w.Sides[1].In.Done) != "old Things" || len(w.Got[1]) != 0 {
		t.Fatalf("%+v is not the world that the tests of lines lean on", w)
	}
}

// lineRow is a line that is a command, with the call that it stands for.
type lineRow struct {
	line string
	call impl.WorldResult
	said string
}

func lineRows(w impl.World) []lineRow {
	ran := func(rounds int64) impl.WorldResult {
		run := impl.RunWorld(w, rounds)
		return impl.WorldResult{Code: run.Code, World: run.World}
	}
	return []lineRow{
		{"dial 1 3", impl.DialWorld(w, 1, 3), "ok"},
		{"dial 2 999999", impl.DialWorld(w, 2, 999999), "ok"},
		{"write 0 hello", impl.WriteWorld(w, 0, []byte("hello")), "ok"},
		{"write 1 hello", impl.WriteWorld(w, 1, []byte("hello")), "ok"},
		{"end 0", impl.EndWorld(w, 0), "ok"},
		{"end 1", impl.EndWorld(w, 1), "ok"},
		{"tick", impl.TickWorld(w), "ok"},
		{"take 0", impl.DeliverWorld(w, 0), "ok"},
		{"take 1", impl.DeliverWorld(w, 1), "ok"},
		{"lose 0", impl.MeddleWorld(w, 1, 0, 0, 0), "ok"},
		{"lose 1", impl.MeddleWorld(w, 1, 1, 0, 0), "ok"},
		{"copy 0", impl.MeddleWorld(w, 2, 0, 0, 0), "ok"},
		{"copy 1", impl.MeddleWorld(w, 2, 1, 0, 0), "ok"},
		{"strip 0", impl.MeddleWorld(w, 3, 0, 0, 0), "ok"},
		{"strip 1", impl.MeddleWorld(w, 3, 1, 0, 0), "ok"},
		{"alter 0 1 2", impl.MeddleWorld(w, 4, 0, 1, 2), "ok"},
		{"alter 1 2 255", impl.MeddleWorld(w, 4, 1, 2, 255), "ok"},
		{"kill 0", impl.MeddleWorld(w, 5, 0, 0, 0), "ok"},
		{"kill 2", impl.MeddleWorld(w, 5, 2, 0, 0), "ok"},
		{"run 0", ran(0), "ok"},
		{"run 1", ran(1), "ok"},
		{"run 12", ran(12), "ok"},
		{"run 200", ran(200), "ok"},
		{"read 1 3", impl.ReadWorld(w, 1, 3), "got old"},
		{"read 1 9", impl.ReadWorld(w, 1, 9), "got old..hing"},
		{"read 1 1000", impl.ReadWorld(w, 1, 1000), "got old..hings"},
		{"read 1 0", impl.ReadWorld(w, 1, 0), "got "},
		{"read 0 9", impl.ReadWorld(w, 0, 9), "got "},
		{"show", impl.WorldResult{World: w}, impl.WorldText(w).Text},
	}
}

func TestStepScriptDoes(t *testing.T) {
	w := doingWorld()
	for _, row := range lineRows(w) {
		if row.call.Code != impl.OK {
			t.Fatalf("%s tells the code %d", row.line, row.call.Code)
		}
		want := impl.ScriptResult{World: row.call.World, Said: row.said}
		if got := impl.StepScript(w, row.line); !sameScript(got, want) {
			t.Errorf("%s: %+v, want %+v", row.line, got, want)
		}
		// Blanks ahead, behind and many between are all one.
		for _, blanks := range []string{"  ", "      "} {
			line := blanks + strings.ReplaceAll(row.line, " ", blanks) + blanks
			if got := impl.StepScript(w, line); !sameScript(got, want) {
				t.Errorf("%q: %+v, want %+v", line, got, want)
			}
		}
	}
}

// What is none of the commands tells ErrText alone, and so does each command with a word less or more.
func TestStepScriptNumbersOfWords(t *testing.T) {
	w := doingWorld()
	check := func(line string) {
		t.Helper()
		if got := impl.StepScript(w, line); !sameScript(got, impl.ScriptResult{Code: impl.ErrText}) {
			t.Errorf("%q: %+v", line, got)
		}
	}
	for _, row := range lineRows(w) {
		words := strings.Split(row.line, " ")
		for count := 1; count < len(words); count++ {
			check(strings.Join(words[:count], " "))
			check(strings.Join(words[count:], " "))
		}
		for _, more := range []string{"0", "1", "x", "ok", "0 0", "1 2 3 4", "end", "tick"} {
			check(row.line + " " + more)
			check(more + " " + row.line)
		}
		check(row.line + " " + row.line)
	}
}

// A command has its own name, byte by byte.
func TestStepScriptNames(t *testing.T) {
	w := doingWorld()
	for _, row := range lineRows(w) {
		name, rest, hasRest := strings.Cut(row.line, " ")
		if hasRest {
			rest = " " + rest
		}
		for _, other := range []string{
			strings.ToUpper(name), strings.ToUpper(name[:1]) + name[1:], name[:len(name)-1], name[1:], name + "s", name + ".", name + ":",
			"x" + name, name + "\t", "\t" + name, name + "\r", name + "\x00", "\ufeff" + name, "do", "N", "W", "0", "!",
		} {
			if got := impl.StepScript(w, other+rest); !sameScript(got, impl.ScriptResult{Code: impl.ErrText}) {
				t.Errorf("%q: %+v", other+rest, got)
			}
		}
	}
	for _, line := range []string{"wink", "dial\t1\t3", "\t", "\r", "tick\ttick", "tick;", "#", "settle 3", "deliver 0", "meddle 1 0 0 0", "dial N N", "write N W", "write W W", "end N", "take N", "run N", "read N N", "alter N N N", "\xff"} {
		if got := impl.StepScript(w, line); !sameScript(got, impl.ScriptResult{Code: impl.ErrText}) {
			t.Errorf("%q: %+v", line, got)
		}
	}
}

// numberPlaces are lines with one number in them as %s, of each place that a command has for one.
func numberPlaces() []string {
	return []string{"dial %s 3", "dial 1 %s", "write %s hello", "end %s", "take %s", "lose %s", "copy %s", "strip %s", "alter %s 1 2", "alter 0 %s 2", "alter 0 1 %s", "kill %s", "run %s", "read %s 9", "read 1 %s"}
}

func TestStepScriptNumbers(t *testing.T) {
	w := doingWorld()
	for _, form := range numberPlaces() {
		// Noughts ahead are counted, and allowed.
		for _, same := range [][]string{{"0", "00", "000", "0000", "00000", "000000"}, {"1", "01", "001", "0001", "00001", "000001"}, {"12", "000012"}, {"255", "000255"}, {"99999", "099999"}, {"100000"}, {"999999"}} {
			want := stepScriptModel(w, fmt.Sprintf(form, same[0]))
			for _, number := range same {
				if got := impl.StepScript(w, fmt.Sprintf(form, number)); got.Code == impl.ErrText || !sameScript(got, want) {
					t.Errorf(form+": %+v, want %+v", number, got, want)
				}
			}
		}
		for _, number := range []string{
			"0000000", "0000001", "1000000", "9999999", "00000000", "10000000000000000000000", strings.Repeat("0", 100),
			"-1", "+1", "-0", "+0", "-", "+", "1-", "1+", "1a", "a1", "1.0", "1.", ".1", "1,0", "1_0", "0x1", "0b1", "1e1", "a", "N", "W", "x",
			"/", ":", "1/", ":1", "0:", "/0", "1\t", "\t1", "1\r", "\x001", "1\x00", "\x01", "\x30\x80", "\xb1", "\uff11", "\u0661", "1\u00a0", "\"1\"", "tick",
		} {
			if got := impl.StepScript(w, fmt.Sprintf(form, number)); !sameScript(got, impl.ScriptResult{Code: impl.ErrText}) {
				t.Errorf(form+": %+v", number, got)
			}
		}
		for b := range 256 {
			number := string([]byte{byte(b)})
			if b == 10 || b == 32 || b >= '0' && b <= '9' {
				continue
			}
			for _, number := range []string{number, number + "1", "1" + number, "0" + number + "1"} {
				if got := impl.StepScript(w, fmt.Sprintf(form, number)); got.Code != impl.ErrText {
					t.Errorf(form+": %+v", number, got)
				}
			}
		}
	}
}

// A word to write is any bytes but blanks: what looks like a number or a command, too.
func TestStepScriptWords(t *testing.T) {
	w := doingWorld()
	words := []string{"x", "hello", "0", "000000", "0000000", "12345678901234567890", "-1", "tick", "write", "end", "read", "show", "N", "W", "TICK", "a,b", "\t", "\r", "\x00", "\xff", "\xff\xfe\x80", "\u00fc\u4e16", "\u00a0", "! 5", "."}
	for b := range 256 {
		if b != 10 && b != 32 {
			words = append(words, string([]byte{byte(b)}), "x"+string([]byte{byte(b)})+"y")
		}
	}
	for side := range int64(2) {
		room := 300 - len(w.Sides[side].Wrote)
		for _, word := range append(slices.Clone(words), strings.Repeat("q", room), strings.Repeat("q", room-1)) {
			line := fmt.Sprintf("write %d %s", side, word)
			if strings.Contains(word, " ") {
				if got := impl.StepScript(w, line); !sameScript(got, impl.ScriptResult{Code: impl.ErrText}) {
					t.Errorf("%q: %+v", line, got)
				}
				continue
			}
			want := turned(w, func(w *impl.World) { w.Sides[side].Wrote = append(w.Sides[side].Wrote, word...) })
			if got := impl.StepScript(w, line); !sameScript(got, impl.ScriptResult{World: want, Said: "ok"}) {
				t.Errorf("%q: %+v", line, got)
			}
		}
		for _, size := range []int{room + 1, 301, 5000} {
			if got := impl.StepScript(w, fmt.Sprintf("write %d %s", side, strings.Repeat("q", size))); !sameScript(got, impl.ScriptResult{Code: impl.ErrMany}) {
				t.Errorf("a word of %d bytes: %+v", size, got)
			}
		}
	}
}

// Each command's own codes, beside which all else is zero.
func TestStepScriptCodes(t *testing.T) {
	w := doingWorld()
	fresh := impl.NewWorld(5, 7).World
	ended := impl.EndWorld(impl.EndWorld(w, 0).World, 1).World
	last := turned(w, func(w *impl.World) { w.Now = 100000 })
	near := turned(w, func(w *impl.World) { w.Now = 99990 })
	full := turned(w, func(w *impl.World) { w.Net.Bag = manySegmentsOn(60, 0) })
	for _, row := range []struct {
		name string
		w    impl.World
		line string
		want int64
	}{
		{"no path", w, "dial 3 0", impl.ErrRange},
		{"no path", fresh, "dial 999999 0", impl.ErrRange},
		{"not open yet", impl.DialWorld(fresh, 0, 3).World, "dial 1 3", impl.ErrState},
		{"not open yet", impl.DialWorld(fresh, 0, 3).World, "dial 0 3", impl.ErrState},
		{"there already", w, "dial 0 3", impl.ErrTaken},
		{"no side", w, "write 2 x", impl.ErrRange},
		{"ended", ended, "write 0 x", impl.ErrState},
		{"ended", ended, "write 1 x", impl.ErrState},
		{"ended, and too much", ended, "write 0 " + strings.Repeat("x", 301), impl.ErrState},
		{"too much", fresh, "write 1 " + strings.Repeat("x", 301), impl.ErrMany},
		{"no side, and too much", fresh, "write 2 " + strings.Repeat("x", 301), impl.ErrRange},
		{"no side", w, "end 2", impl.ErrRange},
		{"ended", ended, "end 0", impl.ErrState},
		{"ended", ended, "end 1", impl.ErrState},
		{"the last tick", last, "tick", impl.ErrRange},
		{"none there", w, "take 2", impl.ErrNone},
		{"none there", fresh, "take 0", impl.ErrNone},
		{"none there", w, "lose 2", impl.ErrNone},
		{"none there", w, "copy 2", impl.ErrNone},
		{"no room", full, "copy 0", impl.ErrMany},
		{"no room, and none there", full, "copy 60", impl.ErrNone},
		{"none there", w, "strip 2", impl.ErrNone},
		{"none there", w, "alter 2 0 1", impl.ErrNone},
		{"behind the Load", w, "alter 0 4 1", impl.ErrRange},
		{"by nothing", w, "alter 0 0 0", impl.ErrRange},
		{"by too much", w, "alter 0 0 256", impl.ErrRange},
		{"no path", w, "kill 3", impl.ErrRange},
		{"too many", w, "run 201", impl.ErrRange},
		{"too many", w, "run 999999", impl.ErrRange},
		{"behind the last tick", near, "run 11", impl.ErrRange},
		{"behind the last tick", last, "run 1", impl.ErrRange},
		{"no side", w, "read 2 9", impl.ErrRange},
		{"no side", w, "read 999999 1", impl.ErrRange},
		{"too much", w, "read 1 1001", impl.ErrRange},
	} {
		if got := impl.StepScript(row.w, row.line); !sameScript(got, impl.ScriptResult{Code: row.want}) {
			t.Errorf("%s, %s: %+v, want the code %d", row.line, row.name, got, row.want)
		}
		if want := stepScriptModel(row.w, row.line); want.Code != row.want {
			t.Errorf("%s, %s: by the sentences %+v, want the code %d", row.line, row.name, want, row.want)
		}
	}
	if got := impl.StepScript(near, "run 10"); got.Code != impl.OK || got.World.Now != 100000 {
		t.Errorf("run 10 up to the last tick = %+v", got)
	}
}

// What is said of a read: the letters, with none of them, too, and the end, at once and for ever after.
func TestStepScriptReads(t *testing.T) {
	for _, row := range []struct {
		given, finIn int64
		ended        bool
		n            int64
		said         string
	}{
		{0, -1, false, 0, "got "},
		{0, -1, false, 1, "got a"},
		{0, -1, false, 1000, "got abcdef"},
		{2, -1, false, 3, "got cde"},
		{6, -1, false, 9, "got "},
		{0, 6, false, 0, "got "},
		{0, 6, false, 5, "got abcde"},
		{0, 6, false, 6, "got abcdef end"},
		{5, 6, false, 1, "got f end"},
		{6, 6, false, 0, "got  end"},
		{6, 6, false, 1000, "got  end"},
		{6, 7, false, 1000, "got "},
		{6, 7, true, 1000, "got  end"},
		{0, -1, true, 2, "got ab end"},
		{0, 6, true, 0, "got  end"},
	} {
		w := readingWorld(row.given, row.finIn, row.ended)
		for side := range int64(2) {
			// The other side is ended just where this one is not.
			w.Ended[1-side], w.Ended[side] = !row.ended, row.ended
			got := impl.StepScript(w, fmt.Sprintf("read %d %d", side, row.n))
			if want := impl.ReadWorld(w, side, row.n).World; !sameScript(got, impl.ScriptResult{World: want, Said: row.said}) {
				t.Errorf("read at %d of %+v = %+v", side, row, got)
			}
		}
	}
	for _, done := range [][]byte{lettersOf(400), slices.Repeat([]byte{200}, 400)} {
		w := turned(impl.NewWorld(5, 7).World, func(w *impl.World) { w.Sides[1].In.Done = done })
		if got := impl.StepScript(w, "read 1 1000"); got.Code != impl.OK || got.Said != "got "+lettersModel(done) || len(got.World.Got[1]) != 400 {
			t.Errorf("read of as much as may be = %+v", got)
		}
	}
}

func TestStepScriptOfNoWords(t *testing.T) {
	for _, w := range []impl.World{impl.NewWorld(5, 7).World, doingWorld(), turned(doingWorld(), func(w *impl.World) { w.Now = 100000 })} {
		for _, line := range []string{"", " ", "  ", strings.Repeat(" ", 2000)} {
			if got := impl.StepScript(w, line); !sameScript(got, impl.ScriptResult{World: w}) {
				t.Errorf("%q: %+v", line, got)
			}
		}
	}
}

// A line with a byte 10 in it is none, wherever that stands, and whatever stands beside it.
func TestStepScriptLineFeeds(t *testing.T) {
	w := doingWorld()
	lines := []string{"\n", " \n", "\n ", "  \n  ", "\n\n", "wink\n", "write 0 a\nb", "write 0 \n", "write 0 hello\n", "read 1 9\r\n"}
	for _, row := range lineRows(w) {
		lines = append(lines, row.line+"\n", "\n"+row.line, row.line+" \n", "\n "+row.line, strings.Replace(row.line, " ", "\n", 1)+"\n", strings.ReplaceAll(row.line+" ", " ", " \n "), row.line+"\n"+row.line)
	}
	for _, line := range lines {
		if got := impl.StepScript(w, line); !sameScript(got, impl.ScriptResult{Code: impl.ErrText}) {
			t.Errorf("%q: %+v", line, got)
		}
	}
}

// With each fault of a world that is told first, whatever the line or the script is.
func TestScriptsAskTheWorldFirst(t *testing.T) {
	texts := []string{"", " ", "tick", "show", "wink", "a\nb", "\n", "run 201", "write 0 x", "read 2 9", strings.Repeat("\n", 61), strings.Repeat(" ", 1501)}
	for _, row := range worldRows() {
		if row.want == impl.OK {
			continue
		}
		for _, text := range texts {
			want := impl.ScriptResult{Code: row.want}
			if step, run := impl.StepScript(row.w, text), impl.RunScript(row.w, text); !sameScript(step, want) || !sameScript(run, want) {
				t.Errorf("%q of %s: %+v, %+v, want the code %d alone", text, row.name, step, run, row.want)
			}
		}
	}
}

func TestRunScript(t *testing.T) {
	w := doingWorld()
	text := impl.WorldText(w).Text
	for _, row := range []struct {
		name, text, said string
		// same are the lines that lead to the same world.
		same []string
	}{
		{"the empty text", "", "", nil},
		{"a line feed", "\n", "", nil},
		{"empty lines", "\n\n\n", "", nil},
		{"blanks", "   ", "", nil},
		{"lines of blanks", "  \n \n", "", nil},
		{"one line", "tick\n", "ok\n", []string{"tick"}},
		{"one line without a line feed", "tick", "ok\n", []string{"tick"}},
		{"two lines", "tick\ntick\n", "ok\nok\n", []string{"tick", "tick"}},
		{"two lines without a line feed behind", "tick\ntick", "ok\nok\n", []string{"tick", "tick"}},
		{"an empty line between", "tick\n\n\ntick\n\n", "ok\nok\n", []string{"tick", "tick"}},
		{"a line of blanks between and behind", "tick\n  \ntick\n  ", "ok\nok\n", []string{"tick", "tick"}},
		{"empty lines ahead", "\n\ntick", "ok\n", []string{"tick"}},
		{"none of the commands", "wink\n", "! 5\n", nil},
		{"none of the commands without a line feed", "wink", "! 5\n", nil},
		{"a code in the midst", "tick\nrun 201\ntick\n", "ok\n! 3\nok\n", []string{"tick", "tick"}},
		{"codes alone", "take 9\nend 2\nwink\ndial 0 3\n", "! 4\n! 3\n! 5\n! 7\n", nil},
		{"a code of two digits", "end 0\nwrite 0 x\nend 0\nwrite 1 x\n", "ok\n! 10\n! 10\nok\n", []string{"end 0", "write 1 x"}},
		{"too much, then less", "write 0 " + strings.Repeat("x", 299) + "\nwrite 0 y\n", "! 2\nok\n", []string{"write 0 y"}},
		{"shown", "show\n", text, nil},
		{"shown without a line feed", "show", text, nil},
		{"shown twice, with a line of blanks between", "show\n \nshow", text + text, nil},
		{"shown behind a code", "kill 3\nshow\n", "! 3\n" + text, nil},
		{"read", "read 1 3\nread 1 0\nread 1 1000\nread 1 9\n", "got old\ngot \ngot ..hings\ngot \n", []string{"read 1 3", "read 1 7"}},
		{"a carriage return", "tick\r\n", "! 5\n", nil},
		{"a tab", "\ttick\n", "! 5\n", nil},
		{"a byte 0", "tick\x00\n\x00", "! 5\n! 5\n", nil},
		{"blanks around", "   tick   \n", "ok\n", []string{"tick"}},
	} {
		got := impl.RunScript(w, row.text)
		if got.Code != impl.OK || got.Said != row.said {
			t.Errorf("%s: the code %d, said was %q, want %q", row.name, got.Code, got.Said, row.said)
		}
		want := w
		for _, line := range row.same {
			want = stepScriptModel(want, line).World
		}
		if !sameWorld(got.World, want) {
			t.Errorf("%s: %+v, want %+v", row.name, got.World, want)
		}
	}
}

// The bounds by themselves, with a line feed behind the last line and without.
func TestRunScriptBounds(t *testing.T) {
	w := impl.NewWorld(5, 7).World
	word := strings.Repeat("x", 190)
	for _, row := range []struct {
		name, text string
		want       int64
		said       string
	}{
		{"1500 blanks", strings.Repeat(" ", 1500), impl.OK, ""},
		{"1501 blanks", strings.Repeat(" ", 1501), impl.ErrMany, ""},
		{"1499 blanks and a line feed", strings.Repeat(" ", 1499) + "\n", impl.OK, ""},
		{"1500 blanks and a line feed", strings.Repeat(" ", 1500) + "\n", impl.ErrMany, ""},
		{"a tick behind 1496 blanks", strings.Repeat(" ", 1496) + "tick", impl.OK, "ok\n"},
		{"a tick behind 1497 blanks", strings.Repeat(" ", 1497) + "tick", impl.ErrMany, ""},
		{"a tick ahead of 1496 blanks", "tick" + strings.Repeat(" ", 1496), impl.OK, "ok\n"},
		{"bytes above 127, 1500 of them", strings.Repeat("\u00fc", 750), impl.OK, "! 5\n"},
		{"bytes above 127, 1502 of them", strings.Repeat("\u00fc", 751), impl.ErrMany, ""},
		{"long lines, 1500 bytes", strings.Repeat("write 2 "+word+" \n", 7) + strings.Repeat(" ", 100), impl.OK, strings.Repeat("! 3\n", 7)},
		{"long lines, 1501 bytes", strings.Repeat("write 2 "+word+" \n", 7) + strings.Repeat(" ", 101), impl.ErrMany, ""},
		{"59 lines", strings.Repeat("tick\n", 59), impl.OK, strings.Repeat("ok\n", 59)},
		{"60 lines", strings.Repeat("tick\n", 60), impl.OK, strings.Repeat("ok\n", 60)},
		{"60 lines without a line feed behind", strings.Repeat("tick\n", 59) + "tick", impl.OK, strings.Repeat("ok\n", 60)},
		{"61 lines", strings.Repeat("tick\n", 61), impl.ErrMany, ""},
		{"61 lines without a line feed behind", strings.Repeat("tick\n", 60) + "tick", impl.ErrMany, ""},
		{"60 lines and a blank", strings.Repeat("tick\n", 60) + " ", impl.ErrMany, ""},
		{"59 lines and a blank", strings.Repeat("tick\n", 59) + " ", impl.OK, strings.Repeat("ok\n", 59)},
		{"60 empty lines", strings.Repeat("\n", 60), impl.OK, ""},
		{"61 empty lines", strings.Repeat("\n", 61), impl.ErrMany, ""},
		{"60 empty lines and a tick", strings.Repeat("\n", 60) + "tick", impl.ErrMany, ""},
		{"59 empty lines and a tick", strings.Repeat("\n", 59) + "tick", impl.OK, "ok\n"},
		{"1500 empty lines", strings.Repeat("\n", 1500), impl.ErrMany, ""},
		{"60 lines of 25 bytes", strings.Repeat(strings.Repeat(" ", 20)+"tick\n", 60), impl.OK, strings.Repeat("ok\n", 60)},
		{"60 lines of 25 bytes, and one byte more", " " + strings.Repeat(strings.Repeat(" ", 20)+"tick\n", 60), impl.ErrMany, ""},
		{"too many of both", strings.Repeat("tick\n", 10000), impl.ErrMany, ""},
	} {
		got := impl.RunScript(w, row.text)
		if row.want != impl.OK {
			if !sameScript(got, impl.ScriptResult{Code: row.want}) {
				t.Errorf("%s: %+v, want the code %d alone", row.name, got, row.want)
			}
			continue
		}
		ticks := int64(strings.Count(row.said, "ok"))
		if got.Code != impl.OK || got.Said != row.said || !sameWorld(got.World, turned(w, func(w *impl.World) { w.Now = ticks })) {
			t.Errorf("%s: %+v, want %q", row.name, got, row.said)
		}
	}
}

// drawnLine is a line of any kind: mostly good ones, with codes and without, and some that are none.
func drawnLine(draw *rand.Rand, w impl.World) string {
	at, side := draw.Intn(len(w.Net.Bag)+1), draw.Intn(2)
	switch n := draw.Intn(48); {
	case n < 5:
		return fmt.Sprintf("dial %d %d", draw.Intn(4), draw.Intn(1000000))
	case n < 11:
		return fmt.Sprintf("write %d %s", side, drawnWord(draw))
	case n < 16:
		return fmt.Sprintf("read %d %d", side, []int{0, 1, 5, 1000, 1001}[draw.Intn(5)])
	case n < 17 && draw.Intn(2) == 0:
		return fmt.Sprintf("end %d", draw.Intn(3))
	case n < 21:
		return "tick"
	case n < 26:
		return fmt.Sprintf("run %d", []int{0, 1, 2, 3, 8, 201}[draw.Intn(6)])
	case n < 33:
		return fmt.Sprintf("%s %d", []string{"take", "take", "take", "take", "lose", "copy", "strip"}[draw.Intn(7)], at)
	case n < 34:
		return fmt.Sprintf("alter %d %d %d", at, draw.Intn(8), draw.Intn(257))
	case n < 35 && draw.Intn(4) == 0:
		return fmt.Sprintf("kill %d", draw.Intn(4))
	case n < 38:
		return "show"
	case n < 42:
		return strings.Repeat(" ", draw.Intn(4))
	}
	return brokenLine(draw)
}

func drawnWord(draw *rand.Rand) string {
	word := make([]byte, 1+draw.Intn([]int{4, 12, 40}[draw.Intn(3)]))
	for i := range word {
		word[i] = []byte{'a', 'z', 'q', '7', 'Q', 0, 255, '\t', '-', ':'}[draw.Intn(10)]
	}
	return string(word)
}

func brokenLine(draw *rand.Rand) string {
	return []string{"wink", "tick 1", "dial 1", "write 0", "write 0 a b", "end", "take x", "read 1", "run -1", "run 0000001", "TICK", "alter 0 0", "lose 1234567", "\t", "\xff\x00", "show 1"}[draw.Intn(16)]
}

func TestStepScriptAgainstModel(t *testing.T) {
	draw := rand.New(rand.NewSource(1602))
	codes := map[int64]int{}
	said := map[string]int{}
	for _, w := range runningWorlds(400, 1603) {
		for range 12 {
			line := drawnLine(draw, w)
			got, want := impl.StepScript(w, line), stepScriptModel(w, line)
			if !sameScript(got, want) {
				t.Fatalf("%q of %+v\n= %+v,\nwant %+v", line, w, got, want)
			}
			codes[got.Code]++
			if first, _, _ := strings.Cut(line, " "); got.Code == impl.OK {
				said[first]++
			}
		}
	}
	for _, code := range []int64{impl.OK, impl.ErrMany, impl.ErrRange, impl.ErrNone, impl.ErrText, impl.ErrTaken, impl.ErrState} {
		if codes[code] < 15 {
			t.Errorf("the code %d came only %d times", code, codes[code])
		}
	}
	for _, name := range []string{"", "dial", "write", "read", "end", "tick", "run", "take", "lose", "copy", "strip", "alter", "kill", "show"} {
		if said[name] < 5 {
			t.Errorf("%q came only %d times", name, said[name])
		}
	}
}

// drawnScript is within the bounds. It follows the world as it goes, so that its lines find something to do.
func drawnScript(draw *rand.Rand, w impl.World, count int) string {
	text := ""
	for range count {
		line := drawnLine(draw, w)
		if len(text)+len(line)+1 > 1500 {
			break
		}
		text += line + "\n"
		if got := impl.StepScript(w, line); got.Code == impl.OK {
			w = got.World
		}
	}
	if draw.Intn(2) == 0 {
		return strings.TrimSuffix(text, "\n")
	}
	return text
}

func TestRunScriptAgainstModel(t *testing.T) {
	draw := rand.New(rand.NewSource(1604))
	codes, lines := 0, 0
	for i, w := range append(runningWorlds(60, 1605), impl.NewWorld(5, 7).World, doingWorld()) {
		for _, count := range []int{i % 5, 20} {
			text := drawnScript(draw, w, count)
			got, want := impl.RunScript(w, text), runScriptModel(w, text)
			if !sameScript(got, want) || got.Code != impl.OK {
				t.Fatalf("%q of %+v\n= %+v,\nwant %+v", text, w, got, want)
			}
			codes += strings.Count(got.Said, "! ")
			lines += len(linesModel(text))
		}
	}
	if codes < 100 || lines < 800 {
		t.Errorf("%d lines, %d with a code", lines, codes)
	}
}

// Examples of the document by their scripts: as it is, and with every segment stripped.
func TestScriptExamples(t *testing.T) {
	w := impl.NewWorld(5, 7).World
	whole := impl.RunScript(w, "dial 0 3\nwrite 0 hello\nrun 12\nread 1 9\nshow\n")
	if want := "ok\nok\nok\ngot hello\nnow 12\nside 0 5 0 5 multi 0:3\nside 1 0 5 0 multi 0:3\nbag 0\n"; whole.Code != impl.OK || whole.Said != want {
		t.Errorf("said was %q, want %q", whole.Said, want)
	}
	w = impl.RunScript(w, "dial 0 3\nwrite 0 hello\n").World
	for range 12 {
		for at := range len(w.Net.Bag) {
			w = impl.StepScript(w, fmt.Sprintf("strip %d", at)).World
		}
		w = impl.StepScript(w, "run 1").World
	}
	stripped := impl.RunScript(w, "read 1 9\nshow\n")
	if want := "got hello\nnow 12\nside 0 5 0 5 plain 0:3\nside 1 0 5 0 plain 0:3\nbag 0\n"; stripped.Code != impl.OK || stripped.Said != want {
		t.Errorf("stripped, said was %q, want %q", stripped.Said, want)
	}
}

// A tale of all commands, line by line.
func TestScriptOfAllCommands(t *testing.T) {
	text := strings.Join([]string{
		"dial 1 3", "copy 0", "take 0", "lose 0", "take 0", "take 0", "show",
		"write 0 hello", "tick", "copy 0", "alter 1 0 1", "strip 0", "show",
		"lose 1", "take 0", "run 6", "read 1 9", "end 0", "read 1 9", "kill 1", "show", "",
	}, "\n")
	want := strings.Join([]string{
		"ok", "ok", "ok", "ok", "ok", "ok", "now 0", "side 0 0 0 0 multi 1:3", "side 1 0 0 0 multi 1:3", "bag 0",
		"ok", "ok", "ok", "ok", "ok", "now 1", "side 0 5 0 0 multi 1:3", "side 1 0 0 0 multi 1:3", "bag 2",
		"ok", "ok", "ok", "got hello", "ok", "got ", "ok", "now 7", "side 0 5 0 5 multi 1:3", "side 1 0 5 0 plain 1:3", "bag 0", "",
	}, "\n")
	if got := impl.RunScript(impl.NewWorld(5, 7).World, text); got.Code != impl.OK || got.Said != want {
		t.Errorf("said was\n%s\nwant\n%s", got.Said, want)
	}
}
