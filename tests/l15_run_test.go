package tests

import (
	"math"
	"slices"
	"testing"

	"loop.example/g00230/impl"
)

// roundModel goes through the sentence call by call.
func roundModel(w impl.World) impl.WorldResult {
	if fault := worldFaultModel(w); fault != impl.OK {
		return impl.WorldResult{Code: fault}
	}
	if w.Now == 100000 {
		return impl.WorldResult{Code: impl.ErrRange}
	}
	for range len(w.Net.Bag) {
		w = deliverModel(w, 0).World
	}
	return tickModel(w)
}

// roundByCalls is the same with the program's own calls, for worlds without a fault that have a tick left.
func roundByCalls(t *testing.T, w impl.World) impl.World {
	t.Helper()
	take := func(got impl.WorldResult) {
		t.Helper()
		if got.Code != impl.OK {
			t.Fatalf("the code %d of %+v", got.Code, w)
		}
		w = got.World
	}
	for range len(w.Net.Bag) {
		take(impl.DeliverWorld(w, 0))
	}
	take(impl.TickWorld(w))
	return w
}

func runByCalls(t *testing.T, w impl.World, rounds int64) impl.World {
	t.Helper()
	for range rounds {
		w = roundByCalls(t, w)
	}
	return w
}

func sameRun(a impl.RunResult, b impl.RunResult) bool {
	return a.Code == b.Code && a.Rounds == b.Rounds && sameWorld(a.World, b.World)
}

func settledModel(w impl.World) bool {
	return auditModel(w).done && quietModel(w.Sides[0]) && quietModel(w.Sides[1])
}

// settleByCalls runs until it is settled, or so many rounds.
func settleByCalls(t *testing.T, w impl.World, rounds int64) impl.RunResult {
	t.Helper()
	run := impl.RunResult{World: w}
	for run.Rounds != rounds && !settledModel(run.World) {
		run.World = roundByCalls(t, run.World)
		run.Rounds++
	}
	return run
}

func runCodeModel(w impl.World, rounds int64) int64 {
	if fault := worldFaultModel(w); fault != impl.OK {
		return fault
	}
	if rounds < 0 || rounds > 200 || above(addUp(w.Now, rounds), 100000) {
		return impl.ErrRange
	}
	return impl.OK
}

func livePathsModel(w impl.World) impl.IntsResult {
	if fault := worldFaultModel(w); fault != impl.OK {
		return impl.IntsResult{Code: fault}
	}
	opens := map[int64]int{}
	for _, c := range w.Sides {
		for _, x := range c.Subs {
			if x.State == 3 {
				opens[x.Path]++
			}
		}
	}
	var out impl.IntsResult
	for _, path := range livingPaths(w.Net.Dead) {
		if opens[path] == 2 {
			out.List = append(out.List, path)
		}
	}
	return out
}

func roundsForModel(w impl.World) impl.IntResult {
	if fault := worldFaultModel(w); fault != impl.OK {
		return impl.IntResult{Code: fault}
	}
	a, b := w.Sides[0], w.Sides[1]
	unknown := len(a.Wrote) + len(b.Wrote) - int(a.Acked) - int(b.Acked)
	if unknown >= 40 {
		return impl.IntResult{Value: 200}
	}
	return impl.IntResult{Value: int64(40 + 4*unknown)}
}

func readAllModel(w impl.World) impl.WorldResult {
	first := readWorldModel(w, 0, 1000)
	if first.Code != impl.OK {
		return first
	}
	return readWorldModel(first.World, 1, 1000)
}

func TestRunConstants(t *testing.T) {
	if impl.MaxRounds != 200 {
		t.Error("a constant of chapter 15 is not as the document has it")
	}
}

// With nothing on its way a round is a tick, and with it all that a tick does.
func TestRoundWorldOfAnEmptyBag(t *testing.T) {
	fresh := impl.NewWorld(5, 7).World
	if got := impl.RoundWorld(fresh); !sameWorlds(got, impl.WorldResult{World: turned(fresh, func(w *impl.World) { w.Now = 1 })}) {
		t.Errorf("RoundWorld of a new world = %+v", got)
	}
	w := impl.WriteWorld(openWorld(0), 0, []byte("hello")).World
	if got := impl.RoundWorld(w); !sameWorlds(got, impl.TickWorld(w)) || len(got.World.Net.Bag) != 1 {
		t.Errorf("RoundWorld of an empty Bag = %+v", got)
	}
}

// One thing a round: asked for, answered, opened, and what is told of each stays for the next round.
func TestRoundWorldOneByOne(t *testing.T) {
	w := turned(impl.NewWorld(5, 7).World, func(w *impl.World) { w.Now = 10 })
	w = impl.WriteWorld(impl.DialWorld(w, 1, 3).World, 0, []byte("hello")).World
	w = impl.RoundWorld(w).World
	if w.Now != 11 || len(w.Sides[1].Subs) != 1 || w.Sides[1].Subs[0].State != impl.SubAnswered || w.Sides[1].Subs[0].Sent != 10 || w.Sides[0].Subs[0].State != impl.SubAsked {
		t.Fatalf("the first round made %+v", w)
	}
	if bag := w.Net.Bag; len(bag) != 1 || !bag[0].Syn || !bag[0].Ackd || bag[0].From != 1 {
		t.Fatalf("behind the first round the Bag is %+v", bag)
	}
	// The path is open ahead of the tick, so that the tick sends over it.
	w = impl.RoundWorld(w).World
	if bag := w.Net.Bag; w.Now != 12 || w.Sides[0].Subs[0].State != impl.SubOpen || w.Sides[1].Subs[0].State != impl.SubAnswered || len(bag) != 2 || bag[0].Opt != impl.OptMap || len(bag[0].Load) != 0 || string(bag[1].Load) != "hello" {
		t.Fatalf("the second round made %+v", w)
	}
	w = impl.RoundWorld(w).World
	if bag := w.Net.Bag; w.Now != 13 || w.Sides[1].Subs[0].State != impl.SubOpen || string(w.Sides[1].In.Done) != "hello" || len(bag) != 1 || bag[0].A != 5 || w.Sides[0].Acked != 0 {
		t.Fatalf("the third round made %+v", w)
	}
	w = impl.RoundWorld(w).World
	if w.Now != 14 || len(w.Net.Bag) != 0 || w.Sides[0].Acked != 5 || len(w.Sides[0].Subs[0].Send.Flights) != 0 {
		t.Fatalf("the fourth round made %+v", w)
	}
}

// strayWorld has so many segments on their way over the path 2, of which the side 1 knows nothing: it refuses each. The side 0 has that path open, and would close it by the first refusal that it hears; with the next tick it sends two loads over it.
func strayWorld(now int64, count int) impl.World {
	mine := sideWith(0, 20, false, carrying(2, 16))
	var bag []impl.Segment
	for i := range int64(count) {
		bag = append(bag, impl.Segment{Path: 2, Seq: 100 + i, Ack: 300 + 2*i})
	}
	return worldOf(now, mine, impl.NewConn(1, 7).Conn, netWith(deadMarks(0), bag...))
}

func TestRoundWorldJustAsMany(t *testing.T) {
	for _, count := range []int{0, 1, 2, 3, 7, 30, 58, 59, 60} {
		w := strayWorld(4, count)
		got := impl.RoundWorld(w)
		if got.Code != impl.OK || got.World.Now != 5 || got.World.Sides[0].Subs[0].State != impl.SubOpen || len(got.World.Sides[1].Subs) != 0 || len(got.Data) != 0 {
			t.Fatalf("a round of %d: %+v", count, got)
		}
		sent := impl.StepConn(w.Sides[0], 5)
		var want []impl.Segment
		for i := range int64(count) {
			want = append(want, impl.Segment{Path: 2, From: 1, Rst: true, Seq: 300 + 2*i, Ack: 100 + i})
		}
		want = append(want, sent.Send...)
		want = want[:min(len(want), 60)]
		if len(sent.Send) != 2 || !sameList(got.World.Net.Bag, want) || !sameConn(got.World.Sides[0], sent.Conn) {
			t.Errorf("a round of %d: the Bag is %+v, want %+v", count, got.World.Net.Bag, want)
		}
		next := impl.RoundWorld(got.World)
		if closed := next.World.Sides[0].Subs[0].State == impl.SubClosed; closed != (count > 0) {
			t.Errorf("the round behind a round of %d: %+v", count, next)
		}
	}
}

// What opens a path, a load over it, and what closes it: in another order each of them makes something else.
func TestRoundWorldInTheirOrder(t *testing.T) {
	asked := impl.DialWorld(impl.NewWorld(5, 7).World, 0, 3).World
	answered := impl.DeliverWorld(asked, 0).World
	mine := impl.DeliverWorld(answered, 0).World
	opens := mine.Net.Bag[0]
	load := opens
	load.Load, load.B = []byte("hello"), impl.SumLoad(0, []byte("hello"))
	load.Ackd = false
	shuts := impl.Segment{Rst: true}
	for _, row := range []struct {
		name  string
		bag   []impl.Segment
		state int64
		done  string
		told  int
	}{
		{"opened, heard, closed", []impl.Segment{opens, load, shuts}, impl.SubClosed, "hello", 1},
		{"opened, closed, refused", []impl.Segment{opens, shuts, load}, impl.SubClosed, "", 1},
		{"closed, refused, refused", []impl.Segment{shuts, opens, load}, impl.SubClosed, "", 2},
		{"nothing, opened, closed", []impl.Segment{load, opens, shuts}, impl.SubClosed, "", 0},
		{"nothing, opened", []impl.Segment{load, opens}, impl.SubOpen, "", 0},
		{"opened, heard", []impl.Segment{opens, load}, impl.SubOpen, "hello", 1},
		{"opened, heard twice", []impl.Segment{opens, load, load}, impl.SubOpen, "hello", 2},
	} {
		w := turned(mine, func(w *impl.World) { w.Net.Bag = cloneList(row.bag) })
		got := impl.RoundWorld(w)
		hers := got.World.Sides[1]
		if got.Code != impl.OK || hers.Subs[0].State != row.state || string(hers.In.Done) != row.done || len(got.World.Net.Bag) != row.told || !sameWorlds(got, roundModel(w)) {
			t.Errorf("%s: %+v", row.name, got)
		}
	}
}

func TestRoundWorldAtTheLastTick(t *testing.T) {
	for _, base := range []impl.World{impl.NewWorld(5, 7).World, plainWorld(), strayWorld(0, 3)} {
		for now, want := range map[int64]int64{99998: impl.OK, 99999: impl.OK, 100000: impl.ErrRange} {
			w := turned(base, func(w *impl.World) { w.Now = now })
			got := impl.RoundWorld(w)
			if got.Code != want || want == impl.OK && got.World.Now != now+1 || !sameWorlds(got, roundModel(w)) {
				t.Errorf("RoundWorld at %d = %+v", now, got)
			}
		}
	}
}

// runningWorlds are without a fault, of each kind.
func runningWorlds(count int, seed int64) []impl.World {
	return slices.Concat(rightWorlds(count, seed), []impl.World{plainWorld(), calmWorld(false), calmWorld(true), strayWorld(0, 60), strayWorld(7, 5), readingWorld(2, 6, false)})
}

func TestRoundWorldAgainstModel(t *testing.T) {
	last, full := 0, 0
	for _, w := range runningWorlds(250, 1500) {
		got, want := impl.RoundWorld(w), roundModel(w)
		if !sameWorlds(got, want) {
			t.Fatalf("RoundWorld of %+v\n= %+v,\nwant %+v", w, got, want)
		}
		if got.Code != impl.OK {
			last++
			continue
		}
		if fault := impl.WorldFault(got.World); fault != impl.OK {
			t.Fatalf("RoundWorld of %+v has the fault %d: %+v", w, fault, got.World)
		}
		if len(w.Net.Bag) > 57 {
			full++
		}
	}
	if last < 10 || full < 30 {
		t.Errorf("%d worlds were at the last tick, %d had a full Bag", last, full)
	}
}

// edgeRounds are at and beside all bounds of rounds, and of what a world at that tick has left.
func edgeRounds(now int64) []int64 {
	return append(aroundOf(0, 200, 100000, 100000-now), 2, 3, 10)
}

func TestRunWorldRounds(t *testing.T) {
	for _, now := range []int64{0, 5, 99799, 99800, 99801, 99990, 99999, 100000} {
		for _, base := range []impl.World{impl.NewWorld(5, 7).World, impl.WriteWorld(openWorld(1), 1, []byte("hello")).World} {
			w := turned(base, func(w *impl.World) { w.Now = now })
			for _, rounds := range edgeRounds(now) {
				ran, settled := impl.RunWorld(w, rounds), impl.SettleWorld(w, rounds)
				if code := runCodeModel(w, rounds); code != impl.OK {
					if want := (impl.RunResult{Code: code}); !sameRun(ran, want) || !sameRun(settled, want) {
						t.Errorf("%d rounds at %d: %+v, settled %+v", rounds, now, ran, settled)
					}
					continue
				}
				if want := (impl.RunResult{Rounds: rounds, World: runByCalls(t, w, rounds)}); !sameRun(ran, want) {
					t.Errorf("RunWorld of %d at %d = %+v, want %+v", rounds, now, ran, want)
				}
				if want := settleByCalls(t, w, rounds); !sameRun(settled, want) {
					t.Errorf("SettleWorld of %d at %d = %+v, want %+v", rounds, now, settled, want)
				}
			}
		}
	}
}

// Both bounds by themselves: what is told of a number that is none, wherever Now is, and of a Now that leaves too few ticks.
func TestRunWorldCodes(t *testing.T) {
	for _, row := range []struct{ now, rounds, want int64 }{
		{0, -1, impl.ErrRange},
		{0, 0, impl.OK},
		{0, 1, impl.OK},
		{0, 200, impl.OK},
		{0, 201, impl.ErrRange},
		{0, math.MinInt64, impl.ErrRange},
		{0, math.MaxInt64, impl.ErrRange},
		{100000, math.MaxInt64, impl.ErrRange},
		{100000, math.MinInt64, impl.ErrRange},
		{100000, 0, impl.OK},
		{100000, 1, impl.ErrRange},
		{100000, -1, impl.ErrRange},
		{99999, 1, impl.OK},
		{99999, 2, impl.ErrRange},
		{99800, 200, impl.OK},
		{99801, 200, impl.ErrRange},
		{99801, 199, impl.OK},
	} {
		w := turned(impl.WriteWorld(openWorld(1), 1, []byte("hello")).World, func(w *impl.World) { w.Now = row.now })
		ran, settled := impl.RunWorld(w, row.rounds), impl.SettleWorld(w, row.rounds)
		if ran.Code != row.want || settled.Code != row.want {
			t.Errorf("%+v: %+v, %+v", row, ran, settled)
		}
		if row.want == impl.OK && (ran.Rounds != row.rounds || ran.World.Now != row.now+row.rounds) {
			t.Errorf("%+v: %+v", row, ran)
		}
	}
}

// A world that is settled at once has no round at all, however many are told; RunWorld has them all.
func TestSettleWorldAtOnce(t *testing.T) {
	both := impl.EndWorld(impl.WriteWorld(openWorld(0), 0, []byte("hello")).World, 0).World
	both = impl.EndWorld(both, 1).World
	ended := impl.SettleWorld(both, 60)
	if ended.Code != impl.OK || ended.Rounds == 0 || ended.Rounds >= 60 || !settledModel(ended.World) {
		t.Fatalf("SettleWorld = %+v", ended)
	}
	for name, w := range map[string]impl.World{"new": impl.NewWorld(5, 7).World, "open": openWorld(2), "settled": ended.World, "at the last tick": turned(openWorld(0), func(w *impl.World) { w.Now = 100000 })} {
		for _, rounds := range []int64{0, 1, 2, 200} {
			if w.Now+rounds > 100000 {
				continue
			}
			if got := impl.SettleWorld(w, rounds); !sameRun(got, impl.RunResult{World: w}) {
				t.Errorf("SettleWorld of %d, %s: %+v", rounds, name, got)
			}
			if got := impl.RunWorld(w, rounds); got.Rounds != rounds || got.World.Now != w.Now+rounds {
				t.Errorf("RunWorld of %d, %s: %+v", rounds, name, got)
			}
		}
	}
}

// unsettled has one thing alone that keeps a settled world from its end.
func unsettled() map[string]impl.World {
	base := worldOf(8, sideWith(0, 3, false, carrying(0, 16)), sideWith(1, 3, false, carrying(0, 16)), netWith(deadMarks(0)))
	for side := range base.Sides {
		c := &base.Sides[side]
		c.Acked, c.Subs[0].Send, c.Subs[0].Catch = 3, impl.Sender{Start: 7, Next: 3, Acked: 3}, impl.Catch{Start: 7, Next: 3}
	}
	out := map[string]impl.World{"": base}
	for side, name := range []string{" at 0", " at 1"} {
		add := func(what string, turn func(c *impl.Conn, other *impl.Conn)) {
			out[what+name] = turned(base, func(w *impl.World) { turn(&w.Sides[side], &w.Sides[1-side]) })
		}
		add("a flight", func(c *impl.Conn, other *impl.Conn) {
			c.Subs[0].Send = senderWith(7, 0, flight(0, "abc", 8, 1))
		})
		add("not Acked", func(c *impl.Conn, other *impl.Conn) { c.Acked = 2 })
		add("an end that is not known to be there", func(c *impl.Conn, other *impl.Conn) { c.Fin, other.FinIn = true, 3 })
		add("bytes that are not there", func(c *impl.Conn, other *impl.Conn) { other.In.Done = nil })
		add("other bytes", func(c *impl.Conn, other *impl.Conn) { other.In.Done[1] = 'x' })
		add("an end that is not there", func(c *impl.Conn, other *impl.Conn) { c.Fin, c.FinDone = true, true })
		add("a path that is not open yet", func(c *impl.Conn, other *impl.Conn) {
			c.Subs[0].State, c.Subs[0].Send = []int64{impl.SubAsked, impl.SubAnswered}[side], impl.Sender{Start: 7}
		})
	}
	return out
}

func TestSettleWorldNeedsAll(t *testing.T) {
	for name, w := range unsettled() {
		if fault := impl.WorldFault(w); fault != impl.OK {
			t.Fatalf("%s has the fault %d: %+v", name, fault, w)
		}
		got := impl.SettleWorld(w, 1)
		if want := settleByCalls(t, w, 1); !sameRun(got, want) || (got.Rounds == 0) != (name == "") {
			t.Errorf("SettleWorld, %s: %+v, want %+v", name, got, want)
		}
		if got, want := impl.SettleWorld(w, 30), settleByCalls(t, w, 30); !sameRun(got, want) {
			t.Errorf("SettleWorld of 30, %s: %+v, want %+v", name, got, want)
		}
	}
}

// What is on its way does not keep a world from its end: that is not asked.
func TestSettleWorldWithAFullBag(t *testing.T) {
	w := turned(unsettled()[""], func(w *impl.World) { w.Net.Bag = manySegmentsOn(60, 0, 1, 2) })
	if got := impl.SettleWorld(w, 9); !sameRun(got, impl.RunResult{World: w}) {
		t.Errorf("SettleWorld = %+v", got)
	}
}

// Worlds are settled at some round, ahead of it they are not, and what is told is that round.
func TestSettleWorldEndsAhead(t *testing.T) {
	counts := map[int64]int{}
	for _, w := range runningWorlds(150, 1501) {
		rounds := min(25, 100000-w.Now)
		got, want := impl.SettleWorld(w, rounds), settleByCalls(t, w, rounds)
		if !sameRun(got, want) {
			t.Fatalf("SettleWorld of %+v\n= %+v,\nwant %+v", w, got, want)
		}
		if got.Rounds < rounds && !settledModel(got.World) {
			t.Fatalf("SettleWorld ends at %d of %d with %+v", got.Rounds, rounds, got.World)
		}
		if ran := impl.RunWorld(w, got.Rounds); !sameRun(ran, got) {
			t.Fatalf("RunWorld of %d = %+v, settled was %+v", got.Rounds, ran, got)
		}
		counts[got.Rounds]++
	}
	if len(counts) < 8 || counts[0] < 5 || counts[25] < 20 {
		t.Errorf("the rounds were %v", counts)
	}
}

func TestRunWorldAgainstModel(t *testing.T) {
	for i, w := range runningWorlds(150, 1502) {
		rounds := min(int64(i%7), 100000-w.Now)
		want := impl.RunResult{Rounds: rounds, World: w}
		for range rounds {
			want.World = roundModel(want.World).World
		}
		if got := impl.RunWorld(w, rounds); !sameRun(got, want) {
			t.Fatalf("RunWorld of %+v and %d\n= %+v,\nwant %+v", w, rounds, got, want)
		}
	}
}

func TestLivePaths(t *testing.T) {
	const asked, answered, open, closed = impl.SubAsked, impl.SubAnswered, impl.SubOpen, impl.SubClosed
	for _, row := range []struct {
		name       string
		mine, hers []impl.Sub
		dead       int
		want       []int64
	}{
		{"no paths", nil, nil, 0, nil},
		{"one", pathsOf(1, open), pathsOf(1, open), 0, []int64{1}},
		{"one that is dead", pathsOf(1, open), pathsOf(1, open), 2, nil},
		{"one beside dead ones", pathsOf(1, open), pathsOf(1, open), 5, []int64{1}},
		{"open at the side 0 alone", pathsOf(1, open), nil, 0, nil},
		{"open at the side 1 alone", nil, pathsOf(1, open), 0, nil},
		{"open here, and another one there", pathsOf(1, open), pathsOf(2, open), 0, nil},
		{"asked", pathsOf(0, asked), pathsOf(0, open), 0, nil},
		{"answered", pathsOf(0, open), pathsOf(0, answered), 0, nil},
		{"closed at the side 0", pathsOf(2, closed), pathsOf(2, open), 0, nil},
		{"closed at the side 1", pathsOf(2, open), pathsOf(2, closed), 0, nil},
		{"all three", pathsOf(0, open, open, open), pathsOf(0, open, open, open), 0, []int64{0, 1, 2}},
		{"all three, in another order", pathsOf(2, open, open, open), pathsOf(1, open, open, open), 0, []int64{0, 1, 2}},
		{"the last one first", pathsOf(2, open, open), pathsOf(2, open, open), 0, []int64{0, 2}},
		{"the last one first, and dead", pathsOf(2, open, open), pathsOf(2, open, open), 4, []int64{0}},
		{"two of three are dead", pathsOf(1, open, open, open), pathsOf(0, open, open, open), 3, []int64{2}},
		{"all are dead", pathsOf(0, open, open, open), pathsOf(0, open, open, open), 7, nil},
		{"each side has another one that is not open", pathsOf(0, open, asked, open), pathsOf(0, answered, open, open), 0, []int64{2}},
		{"a join is not open yet", pathsOf(1, open, asked), pathsOf(1, open, answered), 0, []int64{1}},
		{"the first one is closed", pathsOf(0, closed, open), pathsOf(0, closed, open), 0, []int64{1}},
	} {
		w := worldOf(3, connAt(0, row.mine...), connAt(1, row.hers...), netWith(deadMarks(row.dead)))
		if got := impl.LivePaths(w); !sameInts(got, impl.IntsResult{List: row.want}) {
			t.Errorf("%s: %+v, want %v", row.name, got, row.want)
		}
	}
}

func TestRoundsFor(t *testing.T) {
	for _, row := range []struct{ wroteA, ackedA, wroteB, ackedB, want int64 }{
		{0, 0, 0, 0, 40},
		{1, 0, 0, 0, 44},
		{0, 0, 1, 0, 44},
		{1, 1, 0, 0, 40},
		{1, 1, 1, 1, 40},
		{300, 300, 300, 300, 40},
		{300, 299, 300, 300, 44},
		{300, 300, 300, 298, 48},
		{10, 3, 5, 2, 80},
		{39, 0, 0, 0, 196},
		{0, 0, 39, 0, 196},
		{20, 0, 19, 0, 196},
		{40, 0, 0, 0, 200},
		{20, 0, 20, 0, 200},
		{41, 0, 0, 0, 200},
		{0, 0, 41, 0, 200},
		{300, 260, 300, 300, 200},
		{300, 261, 300, 300, 196},
		{300, 0, 300, 0, 200},
	} {
		w := turned(impl.NewWorld(5, 7).World, func(w *impl.World) {
			w.Sides[0].Wrote, w.Sides[0].Acked = lettersOf(int(row.wroteA)), row.ackedA
			w.Sides[1].Wrote, w.Sides[1].Acked = lettersOf(int(row.wroteB)), row.ackedB
		})
		if got := impl.RoundsFor(w); got != (impl.IntResult{Value: row.want}) {
			t.Errorf("RoundsFor of %+v = %+v", row, got)
		}
		ends := turned(w, func(w *impl.World) { w.Now, w.Sides[0].Fin, w.Sides[1].Fin, w.Net.Dead[0] = 100000, true, true, true })
		if got := impl.RoundsFor(ends); got != (impl.IntResult{Value: row.want}) {
			t.Errorf("RoundsFor of %+v, ended, = %+v", row, got)
		}
	}
}

func TestReadAll(t *testing.T) {
	most := string(lettersOf(400))
	for _, row := range []struct {
		name         string
		doneA, doneB string
		given        int64
		finA, finB   int64
		endA, endB   bool
	}{
		{"nothing", "", "", 0, -1, -1, false, false},
		{"at the side 0 alone", "abc", "", 0, -1, -1, false, false},
		{"at the side 1 alone", "", "abc", 0, -1, -1, false, false},
		{"at both", "abc", "DEFG", 0, -1, -1, false, false},
		{"the rest", "abc", "DEFG", 2, -1, -1, false, false},
		{"no rest", "abc", "DEF", 3, -1, -1, false, false},
		{"an end at the side 0", "abc", "DEFG", 0, 3, -1, true, false},
		{"an end at the side 1", "abc", "DEFG", 1, -1, 4, false, true},
		{"an end at both", "abc", "DEFG", 0, 3, 4, true, true},
		{"ends with nothing ahead", "", "", 0, 0, 0, true, true},
		{"ends further on", "abc", "DEFG", 0, 4, 5, false, false},
		{"ends behind all that was read", "abc", "DEF", 3, 3, 3, true, true},
		{"as much as may be", most, most, 0, 400, -1, true, false},
	} {
		w := impl.NewWorld(5, 7).World
		for side, done := range []string{row.doneA, row.doneB} {
			w.Sides[side].In.Done, w.Sides[side].Given = []byte(done), row.given
			w.Got[side] = []byte(done[:row.given])
		}
		w.Sides[0].FinIn, w.Sides[1].FinIn = row.finA, row.finB
		want := turned(w, func(w *impl.World) {
			w.Sides[0].Given, w.Sides[1].Given = int64(len(row.doneA)), int64(len(row.doneB))
			w.Got, w.Ended = [][]byte{[]byte(row.doneA), []byte(row.doneB)}, []bool{row.endA, row.endB}
		})
		got := impl.ReadAll(w)
		if !sameWorlds(got, impl.WorldResult{Data: []byte(row.doneB[row.given:]), World: want}) {
			t.Errorf("%s: %+v", row.name, got)
		}
		if again := impl.ReadAll(got.World); !sameWorlds(again, impl.WorldResult{World: want}) {
			t.Errorf("%s, read once more: %+v", row.name, again)
		}
		was := turned(w, func(w *impl.World) { w.Ended = []bool{true, true} })
		if ends := impl.ReadAll(was).World.Ended; !slices.Equal(ends, []bool{true, true}) {
			t.Errorf("%s, ended ahead: %v", row.name, ends)
		}
	}
}

func TestRunTellsAgainstModel(t *testing.T) {
	live, reads, ends := map[int]int{}, 0, 0
	for _, w := range runningWorlds(800, 1503) {
		paths := impl.LivePaths(w)
		if want := livePathsModel(w); !sameInts(paths, want) {
			t.Fatalf("LivePaths of %+v = %+v, want %+v", w, paths, want)
		}
		live[len(paths.List)]++
		if got, want := impl.RoundsFor(w), roundsForModel(w); got != want {
			t.Fatalf("RoundsFor of %+v = %+v, want %+v", w, got, want)
		}
		got := impl.ReadAll(w)
		if want := readAllModel(w); !sameWorlds(got, want) {
			t.Fatalf("ReadAll of %+v = %+v, want %+v", w, got, want)
		}
		if len(got.Data) > 0 && len(got.World.Got[0]) > len(w.Got[0]) {
			reads++
		}
		if !slices.Equal(got.World.Ended, w.Ended) {
			ends++
		}
	}
	if live[0] < 50 || live[1] < 50 || live[2] < 20 || live[3] < 5 || reads < 50 || ends < 20 {
		t.Errorf("live were %v, %d read at both sides, %d ends", live, reads, ends)
	}
}

// With each fault of a world all functions tell it, whatever rounds are asked.
func TestRunAsksTheWorldFirst(t *testing.T) {
	for _, row := range worldRows() {
		if row.want == impl.OK {
			continue
		}
		for name, got := range map[string]impl.WorldResult{"RoundWorld": impl.RoundWorld(row.w), "ReadAll": impl.ReadAll(row.w)} {
			if !sameWorlds(got, impl.WorldResult{Code: row.want}) {
				t.Errorf("%s of %s: %+v, want the code %d alone", name, row.name, got, row.want)
			}
		}
		for _, rounds := range []int64{math.MinInt64, -1, 0, 1, 200, 201, math.MaxInt64} {
			want := impl.RunResult{Code: row.want}
			if ran, settled := impl.RunWorld(row.w, rounds), impl.SettleWorld(row.w, rounds); !sameRun(ran, want) || !sameRun(settled, want) {
				t.Errorf("%s, %d rounds: %+v, %+v, want the code %d alone", row.name, rounds, ran, settled, row.want)
			}
		}
		if got := impl.LivePaths(row.w); !sameInts(got, impl.IntsResult{Code: row.want}) {
			t.Errorf("LivePaths of %s: %+v", row.name, got)
		}
		if got := impl.RoundsFor(row.w); got != (impl.IntResult{Code: row.want}) {
			t.Errorf("RoundsFor of %s: %+v", row.name, got)
		}
	}
}

// Both examples of the document that run 12: as it is, and with every segment stripped ahead of each round.
func TestRunExamples(t *testing.T) {
	w := impl.WriteWorld(impl.DialWorld(impl.NewWorld(5, 7).World, 0, 3).World, 0, []byte("hello")).World
	ran := impl.RunWorld(w, 12)
	if got := impl.ReadWorld(ran.World, 1, 100); ran.Rounds != 12 || string(got.Data) != "hello" || impl.PlainOf(got.World).Value != 0 {
		t.Errorf("read was %q of %+v", got.Data, ran)
	}
	for range 12 {
		w = impl.RunWorld(strippedAll(t, w), 1).World
	}
	if got := impl.ReadWorld(w, 1, 100); string(got.Data) != "hello" || impl.PlainOf(got.World).Value != 2 {
		t.Errorf("stripped, read was %q of %+v", got.Data, w)
	}
}

// strippedAll lets the option of every segment vanish that is on its way.
func strippedAll(t *testing.T, w impl.World) impl.World {
	t.Helper()
	for at := range int64(len(w.Net.Bag)) {
		got := impl.MeddleWorld(w, 3, at, 0, 0)
		if got.Code != impl.OK {
			t.Fatalf("the code %d of %+v at %d", got.Code, w, at)
		}
		w = got.World
	}
	return w
}
