package tests

import (
	"bytes"
	"math"
	"math/rand"
	"slices"
	"testing"

	"loop.example/g00230/impl"
)

// checkStepped holds what promise 12 has of what is sent by a conn without a fault.
func checkStepped(t *testing.T, c impl.Conn, now int64) impl.ConnResult {
	t.Helper()
	got := impl.StepConn(c, now)
	is := checkNoFault(t, "StepConn", got)
	checkStays(t, "StepConn", c, is, func(is *impl.Conn) {
		if len(is.Subs) != len(c.Subs) {
			t.Fatalf("StepConn(%+v, %d) = %+v", c, now, got)
		}
		for i, x := range c.Subs {
			is.Subs[i].Send, is.Subs[i].Control, is.Subs[i].Sent = x.Send, x.Control, x.Sent
		}
	})
	if len(got.Data) != 0 || got.End {
		t.Fatalf("StepConn(%+v, %d) = %+v", c, now, got)
	}
	for i, x := range c.Subs {
		checkSteppedSub(t, c, x, is.Subs[i], now)
	}
	checkSteppedSends(t, c, got, now)
	return got
}

// checkSteppedSub holds that nothing on its way is gone or turned, that what is new is of what was written, and that it has room.
func checkSteppedSub(t *testing.T, c impl.Conn, x impl.Sub, y impl.Sub, now int64) {
	t.Helper()
	if y.Send.Start != x.Send.Start || y.Send.Acked != x.Send.Acked || len(y.Send.Flights) < len(x.Send.Flights) {
		t.Fatalf("at %d becomes %+v of %+v", now, y, x)
	}
	due := 0
	for k, f := range x.Send.Flights {
		g := y.Send.Flights[k]
		want := f
		if now-f.Sent >= impl.WaitTicks {
			due++
			want.Sent, want.Tries = now, min(f.Tries+1, 1000)
		}
		if !sameFlight(g, want) {
			t.Fatalf("at %d becomes %+v of the flight %+v", now, g, f)
		}
	}
	for _, f := range y.Send.Flights[len(x.Send.Flights):] {
		if f.Sent != now || f.Tries != 1 || f.Data+int64(len(f.Load)) > int64(len(c.Wrote)) || !bytes.Equal(f.Load, c.Wrote[f.Data:][:len(f.Load)]) {
			t.Fatalf("at %d is new %+v, written was %q", now, f, c.Wrote)
		}
		if c.Free && f.Data < c.Acked {
			t.Fatalf("at %d is new %+v, known are %d", now, f, c.Acked)
		}
	}
	if anew := len(y.Send.Flights) - len(x.Send.Flights); anew > 0 && (x.State != impl.SubOpen || impl.OnWay(y.Send).Value > y.Control.Window || len(y.Send.Flights) > impl.MaxFlights) {
		t.Fatalf("at %d are new %d without room: %+v", now, anew, y)
	}
	control := x.Control
	if due > 0 {
		control = impl.FallControl(control).Control
	}
	sent := x.Sent
	if (x.State == impl.SubAsked || x.State == impl.SubAnswered) && now-x.Sent >= impl.WaitTicks {
		sent = now
	}
	if y.Control != control || y.Sent != sent {
		t.Fatalf("at %d becomes %+v of %+v", now, y, x)
	}
}

// checkSteppedSends holds that each flight that was touched or is new is sent just once, by its LoadSegment, and of all else what it is.
func checkSteppedSends(t *testing.T, c impl.Conn, got impl.ConnResult, now int64) {
	t.Helper()
	is := got.Conn
	var want []impl.Segment
	begun, ends := 0, 0
	for i, x := range is.Subs {
		for k, f := range x.Send.Flights {
			isNew := k >= len(c.Subs[i].Send.Flights)
			if isNew || now-c.Subs[i].Send.Flights[k].Sent >= impl.WaitTicks {
				g := impl.LoadSegment(is, int64(i), int64(k))
				if g.Code != impl.OK || !bytes.Equal(g.Segment.Load, f.Load) {
					t.Fatalf("the flight %+v is told by %+v", f, g)
				}
				want = append(want, g.Segment)
			}
		}
		if x.Sent != c.Subs[i].Sent || x.State < impl.SubOpen && now == x.Sent && now-c.Subs[i].Sent >= impl.WaitTicks {
			begun++
		}
		if x.State == impl.SubOpen {
			ends++
		}
	}
	if !c.Fin || c.FinDone || c.Acked < int64(len(c.Wrote)) || now%impl.WaitTicks != 0 {
		ends = 0
	}
	for _, g := range got.Send {
		if impl.SegmentFault(g) != impl.OK || faultModel(g) != impl.OK || g.From != c.Side || g.Rst {
			t.Fatalf("at %d is sent %+v", now, g)
		}
		switch k := slices.IndexFunc(want, func(w impl.Segment) bool { return sameFields(w, g) }); {
		case len(g.Load) > 0 && k >= 0:
			want = slices.Delete(want, k, k+1)
		case g.Syn && (g.Ackd == (c.Side == 1)):
			begun--
		case !g.Syn && !g.Ackd && len(g.Load) == 0:
			ends--
		default:
			t.Fatalf("at %d is sent %+v by %+v", now, g, c)
		}
	}
	if len(want) != 0 || begun != 0 || ends != 0 {
		t.Fatalf("at %d are not sent %+v, %d that begin, %d ends: %+v", now, want, begun, ends, got)
	}
}

func TestPromise12WhatIsSentHasNoFault(t *testing.T) {
	times := stepTimes()
	for n, c := range rightSteps() {
		for k := range 3 {
			checkStepped(t, c, times[(n+5*k)%len(times)])
		}
	}
	for _, c := range append(steppingConns(), edgeConns()...) {
		for now := int64(3); now < 9; now++ {
			checkStepped(t, c, now)
		}
	}
}

// Step upon step, with nothing ever heard: what is on its way stays so and is tried again and again, and the windows have fallen.
func TestPromise12NobodyHears(t *testing.T) {
	tried := 0
	for n, c := range drawnSteps(60, 3312) {
		now := int64(12 + n%5)
		for range 40 {
			c = checkStepped(t, c, now).Conn
			now += int64(1 + n%4)
		}
		for _, x := range c.Subs {
			for _, f := range x.Send.Flights {
				tried++
				if f.Tries < 8 || x.Control.Window != impl.WindowLeast {
					t.Fatalf("after 40 steps %+v is on its way over %+v", f, x)
				}
			}
		}
	}
	if tried < 100 {
		t.Errorf("only %d were on their way", tried)
	}
}

// checkChunk holds what promise 12 has of what a path may send next.
func checkChunk(t *testing.T, c impl.Conn, i int64, from int64) impl.ChunkResult {
	t.Helper()
	got := impl.ChunkFor(c, i, from)
	x := c.Subs[i]
	switch {
	case got.Code != impl.OK || got.Size < 0 || got.At < 0:
		t.Fatalf("ChunkFor(%+v, %d, %d) = %+v", c, i, from, got)
	case got.Size == 0 && got.At != 0:
		t.Fatalf("ChunkFor(%+v, %d, %d) = %+v: there is none, and a place of it", c, i, from, got)
	case got.At+got.Size > int64(len(c.Wrote)) || got.Size > impl.MaxLoad || got.Size > impl.RoomOf(x).Value:
		t.Fatalf("ChunkFor(%+v, %d, %d) = %+v: it is not written, or has no room", c, i, from, got)
	case got.Size > 0 && c.Free && (got.At < from || got.At < c.Acked):
		t.Fatalf("ChunkFor(%+v, %d, %d) = %+v: it is known already", c, i, from, got)
	case got.Size > 0 && !c.Free && (i != 0 || got.At != x.Send.Next):
		t.Fatalf("ChunkFor(%+v, %d, %d) = %+v: the conn is not Free", c, i, from, got)
	case got.Size > 0 && impl.CoversData(x, got.At, got.Size):
		t.Fatalf("ChunkFor(%+v, %d, %d) = %+v: it is on its way", c, i, from, got)
	}
	return got
}

func TestPromise12WhatMayBeSentNext(t *testing.T) {
	some := 0
	for _, c := range rightSteps() {
		for i := range c.Subs {
			for _, from := range []int64{0, 1, 4, 8, 19, c.Acked, int64(len(c.Wrote))} {
				if from > int64(len(c.Wrote)) {
					continue
				}
				got := checkChunk(t, c, int64(i), from)
				if got.Size == 0 {
					continue
				}
				some++
				pushed := impl.PushFlight(c.Subs[i].Send, got.At, c.Wrote[got.At:got.At+got.Size], 5)
				if pushed.Code != impl.OK && c.Subs[i].Send.Next <= 1000000-got.Size {
					t.Fatalf("%+v of %+v cannot be pushed: %d", got, c, pushed.Code)
				}
			}
		}
	}
	if some < 2000 {
		t.Errorf("only %d chunks were told", some)
	}
}

// Chunk upon chunk, from where the last one ends on: all that is not covered is told once, in order.
func TestPromise12ChunksAreAllThatIsNotCovered(t *testing.T) {
	for _, c := range append(steppingConns(), drawnSteps(300, 12)...) {
		if !c.Free {
			continue
		}
		for i, x := range c.Subs {
			if impl.RoomOf(x).Value == 0 {
				continue
			}
			var told [400]bool
			for from := int64(0); ; {
				got := checkChunk(t, c, int64(i), from)
				if got.Size == 0 {
					break
				}
				for place := got.At; place < got.At+got.Size; place++ {
					told[place] = true
				}
				from = got.At + got.Size
			}
			for place := range int64(len(c.Wrote)) {
				if told[place] != (place >= c.Acked && !coveredModel(c, int64(i), place)) {
					t.Fatalf("the place %d is told over the sub %d of %+v: %v", place, i, c, told[place])
				}
			}
		}
	}
}

// listenersFor are conns of the other side with one path, whose catch is where the sender of that sub is.
func listenersFor(c impl.Conn, x impl.Sub, f impl.Flight) (out []impl.Conn) {
	for _, next := range []int64{f.At, x.Send.Acked, x.Send.Next, max(0, f.At-3000), max(0, f.At-32767), min(1000000, f.At+32768)} {
		y := subIn(impl.SubOpen, impl.Sender{})
		y.Path, y.Join, y.Catch = x.Path, false, catchWith(x.Send.Start, next)
		out = append(out, impl.Conn{Side: 1 - c.Side, Key: 7, Peer: 5, FinIn: -1, Subs: []impl.Sub{y}})
	}
	return out
}

func TestPromise12WhoHearsFindsThePlace(t *testing.T) {
	mapped, plain := 0, 0
	for _, c := range rightSteps() {
		for i, x := range c.Subs {
			for k, f := range x.Send.Flights {
				got := impl.LoadSegment(c, int64(i), int64(k))
				g := got.Segment
				if got.Code != impl.OK || impl.SegmentFault(g) != impl.OK || !bytes.Equal(g.Load, f.Load) || g.Path != x.Path || g.From != c.Side || !g.Ackd || g.Syn || g.Rst {
					t.Fatalf("LoadSegment(%+v, %d, %d) = %+v", c, i, k, got)
				}
				told := impl.TellSegment(c, x.Path).Segment
				if g.Ack != told.Ack || g.End != told.End || g.Opt != told.Opt || g.A%1000 != told.A {
					t.Fatalf("%+v is told beside a Load as %+v", told, g)
				}
				for _, other := range listenersFor(c, x, f) {
					want := f.Data
					if c.Plain {
						want = f.At
						plain++
					}
					mapped++
					if where := impl.WhereData(other, g); where != (impl.IntResult{Value: want}) {
						t.Fatalf("%+v finds %+v at %+v, want %d", other, g, where, want)
					}
					other.Plain = true
					if where := impl.WhereData(other, g); where != (impl.IntResult{Value: f.At}) {
						t.Fatalf("%+v finds %+v at %+v, want %d", other, g, where, f.At)
					}
				}
			}
		}
	}
	if mapped < 5000 || plain < 100 {
		t.Errorf("only %d places were found, %d of them plain", mapped, plain)
	}
}

// What is heard of a LoadSegment is put at its place.
func TestPromise12WhatIsHeardIsThere(t *testing.T) {
	heard := 0
	for _, c := range append(steppingConns(), drawnSteps(200, 99)...) {
		for i, x := range c.Subs {
			for k, f := range x.Send.Flights {
				g := impl.LoadSegment(c, int64(i), int64(k)).Segment
				got := impl.HearConn(listenersFor(c, x, f)[0], g, 5)
				at := f.Data
				if c.Plain {
					at = f.At
				}
				for n, b := range f.Load {
					if place := at + int64(n); place < impl.MaxStream && (!impl.HasByte(got.Conn.In, place) || rowOf(got.Conn.In)[place] != int(b)) {
						t.Fatalf("%+v is heard as %+v", g, got)
					}
				}
				heard++
			}
		}
	}
	if heard < 2000 {
		t.Errorf("only %d were heard", heard)
	}
}

func TestPromise12OthersAreOpenAndOfAnotherPath(t *testing.T) {
	for _, c := range rightSteps() {
		for path := int64(-1); path <= 3; path++ {
			var want []int64
			for _, x := range c.Subs {
				if x.State == impl.SubOpen && x.Path != path {
					want = append(want, x.Control.Window)
				}
			}
			if got := impl.OthersOf(c, path); !sameInts(got, impl.IntsResult{List: want}) {
				t.Fatalf("OthersOf(%+v, %d) = %+v, want %v", c, path, got, want)
			}
		}
	}
}

// The order has each open sub once, the stale ones behind, and is that of Subs where they are as stale.
func TestPromise12Order(t *testing.T) {
	for _, c := range rightSteps() {
		got := impl.OrderOf(c)
		if got.Code != impl.OK {
			t.Fatalf("OrderOf(%+v) = %+v", c, got)
		}
		seen := map[int64]int{}
		for n, i := range got.List {
			seen[i]++
			if n == 0 {
				continue
			}
			last := got.List[n-1]
			a, b := impl.StaleOf(c.Subs[last]).Value, impl.StaleOf(c.Subs[i]).Value
			if a > b || a == b && last > i {
				t.Fatalf("OrderOf(%+v) = %+v", c, got)
			}
		}
		for i, x := range c.Subs {
			want := 0
			if x.State == impl.SubOpen {
				want = 1
			}
			if seen[int64(i)] != want {
				t.Fatalf("OrderOf(%+v) = %+v", c, got)
			}
		}
	}
}

// isBehind is a conn that knows all to be there, and whose only sender did not send all of it: no side comes to that by itself.
func isBehind(c impl.Conn) bool {
	return !c.Free && len(c.Subs) > 0 && c.Subs[0].Send.Next < int64(len(c.Wrote))
}

// A conn that is quiet sends nothing by itself, at whatever time; one that is not, since something begins or is on its way, sends that again.
func TestPromise12QuietSendsNothing(t *testing.T) {
	quiet, loud := 0, 0
	for _, c := range rightSteps() {
		if impl.QuietConn(c) {
			if isBehind(c) {
				continue
			}
			quiet++
			for _, now := range stepTimes() {
				if got := impl.StepConn(c, now); len(got.Send) != 0 || !sameConn(got.Conn, c) {
					t.Fatalf("%+v is quiet, and sends %+v at %d", c, got.Send, now)
				}
			}
			continue
		}
		begins := slices.ContainsFunc(c.Subs, func(x impl.Sub) bool {
			return x.State < impl.SubOpen && x.Sent <= 999996 || slices.ContainsFunc(x.Send.Flights, func(f impl.Flight) bool { return f.Sent <= 999996 })
		})
		if got := impl.StepConn(c, 1000000); begins {
			loud++
			if len(got.Send) == 0 {
				t.Fatalf("%+v is not quiet, and sends nothing", c)
			}
		}
	}
	if quiet < 50 || loud < 500 {
		t.Errorf("only %d are quiet, %d are not", quiet, loud)
	}
}

// walk is two sides that send by themselves, tick by tick, and what is on its way between them.
type walk struct {
	sides [2]impl.Conn
	bag   []impl.Segment
	now   int64
	strip bool
	dead  [3]bool
}

func (w *walk) tick(t *testing.T) {
	t.Helper()
	w.now++
	for side := range w.sides {
		got := checkStepped(t, w.sides[side], w.now)
		w.sides[side] = got.Conn
		w.put(got.Send)
	}
}

func (w *walk) put(list []impl.Segment) {
	for _, g := range list {
		if w.strip {
			g = impl.StripSegment(g)
		}
		if !w.dead[g.Path] {
			w.bag = append(w.bag, g)
		}
	}
}

func (w *walk) deliver(t *testing.T, i int) {
	t.Helper()
	g := w.bag[i]
	w.bag = slices.Delete(w.bag, i, i+1)
	got := checkKept(t, w.sides[1-g.From], g, w.now)
	w.sides[1-g.From] = got.Conn
	w.put(got.Send)
}

// check holds that what came in and what is on its way is what was written, and that no more is known than is there.
func (w *walk) check(t *testing.T) {
	t.Helper()
	for side := range w.sides {
		me, other := w.sides[side], w.sides[1-side]
		if !impl.FitsStream(me.In, other.Wrote) || me.FinIn != -1 && (!other.Fin || me.FinIn != int64(len(other.Wrote))) {
			t.Fatalf("%q with the end %d came in of %q", me.In.Done, me.FinIn, other.Wrote)
		}
		if me.Acked > int64(len(other.In.Done)) || me.FinDone && other.FinIn == -1 {
			t.Fatalf("%d are known to be there, of %q, the end: %v", me.Acked, other.In.Done, me.FinDone)
		}
		for _, x := range me.Subs {
			for _, f := range x.Send.Flights {
				if !bytes.Equal(f.Load, me.Wrote[f.Data:f.Data+int64(len(f.Load))]) {
					t.Fatalf("%+v is on its way, written was %q", f, me.Wrote)
				}
			}
		}
	}
}

func (w *walk) round(t *testing.T) {
	t.Helper()
	for range len(w.bag) {
		w.deliver(t, 0)
	}
	w.tick(t)
	w.check(t)
}

// isDone is where all came in, both ends too, and each side is quiet; a plain side never hears of its end.
func (w *walk) isDone() bool {
	for side := range w.sides {
		me, other := w.sides[side], w.sides[1-side]
		if len(me.In.Done) != len(other.Wrote) || other.Fin && me.FinIn != int64(len(other.Wrote)) {
			return false
		}
		if !impl.QuietConn(me) && !(me.Plain && me.Fin) {
			return false
		}
	}
	return true
}

// meddle writes, ends, dials, delivers out of order and loses some.
func (w *walk) meddle(t *testing.T, draw *rand.Rand, paths int, loses bool) {
	t.Helper()
	c := &w.sides[draw.Intn(2)]
	switch n := draw.Intn(12); {
	case n == 0 && len(w.sides[0].Subs) < paths:
		if got := impl.DialConn(w.sides[0], draw.Int63n(3), draw.Int63n(1000001), w.now); got.Code == impl.OK {
			w.sides[0] = got.Conn
			w.put(got.Send)
		}
	case n == 1:
		if got := impl.WriteConn(*c, lettersOf(draw.Intn(40))); got.Code == impl.OK {
			*c = got.Conn
		}
	case n == 2 && draw.Intn(6) == 0:
		if got := impl.CloseConn(*c); got.Code == impl.OK {
			*c = got.Conn
		}
	case n <= 5:
		w.tick(t)
	case len(w.bag) == 0:
	case n == 6 && loses:
		i := draw.Intn(len(w.bag))
		w.bag = slices.Delete(w.bag, i, i+1)
	case n == 7:
		w.bag = append(w.bag, w.bag[draw.Intn(len(w.bag))])
	default:
		w.deliver(t, draw.Intn(len(w.bag)))
	}
	w.check(t)
}

// Two sides that send by themselves: what is lost is sent again, and all comes there; where one path of two is dead, by the other one.
func TestPromise12TwoSidesSendByThemselves(t *testing.T) {
	draw := rand.New(rand.NewSource(3313))
	count := map[string]int{}
	for round := range 150 {
		w := walk{strip: round%5 == 4}
		w.sides = [2]impl.Conn{impl.NewConn(0, 1+draw.Int63n(999999)).Conn, impl.NewConn(1, 1+draw.Int63n(999999)).Conn}
		for range 150 {
			w.meddle(t, draw, 1+round%3, round%2 == 0)
		}
		if len(w.sides[0].Subs) == 0 {
			dialed := impl.DialConn(w.sides[0], 1, 5, w.now)
			w.sides[0] = dialed.Conn
			w.put(dialed.Send)
		}
		for n := 0; n < 400 && !w.isDone(); n++ {
			w.round(t)
		}
		if !w.isDone() {
			t.Fatalf("nothing is lost any more, and the sides are %+v", w.sides)
		}
		countWalk(count, w)
		if open := bothOpen(w); len(open) > 1 {
			count["one path of two"]++
			w.dead[open[draw.Intn(len(open))]] = true
			w.bag = slices.DeleteFunc(w.bag, func(g impl.Segment) bool { return w.dead[g.Path] })
			for side := range w.sides {
				if got := impl.WriteConn(w.sides[side], lettersOf(50)); got.Code == impl.OK {
					w.sides[side] = got.Conn
				}
			}
			for n := 0; n < 400 && !w.hasAll(); n++ {
				w.round(t)
			}
			if !w.hasAll() {
				t.Fatalf("the paths %v are dead, and the sides are %+v", w.dead, w.sides)
			}
		}
	}
	for _, what := range []string{"free", "plain", "ended", "one path of two"} {
		if count[what] < 15 {
			t.Errorf("%s came only %d times", what, count[what])
		}
	}
	if count["bytes"] < 5000 {
		t.Errorf("only %d bytes came in", count["bytes"])
	}
}

func (w *walk) hasAll() bool {
	return len(w.sides[0].In.Done) == len(w.sides[1].Wrote) && len(w.sides[1].In.Done) == len(w.sides[0].Wrote)
}

func bothOpen(w walk) (out []int64) {
	for path := range int64(3) {
		a, b := impl.SubOn(w.sides[0], path), impl.SubOn(w.sides[1], path)
		if a.Code == impl.OK && b.Code == impl.OK && w.sides[0].Subs[a.Value].State == impl.SubOpen && w.sides[1].Subs[b.Value].State == impl.SubOpen {
			out = append(out, path)
		}
	}
	return out
}

func countWalk(count map[string]int, w walk) {
	for _, c := range w.sides {
		if c.Free {
			count["free"]++
		}
		if c.Plain {
			count["plain"]++
		}
		if c.FinIn != -1 {
			count["ended"]++
		}
		count["bytes"] += len(c.In.Done)
	}
}

// someSteps are fewer conns of each kind, with faults and without, for what asks each of them many times.
func someSteps() (out []impl.Conn) {
	for i, c := range steppingConns() {
		if i%7 == 0 {
			out = append(out, c)
		}
	}
	return slices.Concat(someConns(), out, edgeConns(), drawnSteps(100, 1))
}

// stepsOf are calls that answer a conn: at times at which nothing is sent, much, and an end, and at a wrong one.
func stepsOf(c impl.Conn) map[string]func() impl.ConnResult {
	at := func(now int64) func() impl.ConnResult {
		return func() impl.ConnResult { return impl.StepConn(c, now) }
	}
	return map[string]func() impl.ConnResult{"StepConn at 0": at(0), "StepConn at 7": at(7), "StepConn at 10^6": at(1000000), "StepConn at -1": at(-1)}
}

type stepTold struct {
	order  impl.IntsResult
	chunks []impl.ChunkResult
	loads  []impl.SegmentResult
	quiet  bool
}

// tellSteps asks the other functions of the chapter, each at all places and beside them.
func tellSteps(c impl.Conn) stepTold {
	told := stepTold{order: impl.OrderOf(c), quiet: impl.QuietConn(c)}
	for i := int64(-1); i <= 3; i++ {
		for _, from := range []int64{-1, 0, 5, int64(len(c.Wrote)), int64(len(c.Wrote)) + 1} {
			told.chunks = append(told.chunks, impl.ChunkFor(c, i, from))
		}
		for k := int64(-1); k <= 13; k++ {
			told.loads = append(told.loads, impl.LoadSegment(c, i, k))
		}
	}
	return told
}

func sameTold(a stepTold, b stepTold) bool {
	return sameInts(a.order, b.order) && a.quiet == b.quiet && slices.Equal(a.chunks, b.chunks) && slices.EqualFunc(a.loads, b.loads, sameResult)
}

func cloneTold(a stepTold) stepTold {
	a.order.List, a.loads = slices.Clone(a.order.List), slices.Clone(a.loads)
	for i := range a.loads {
		a.loads[i].Segment.Load = slices.Clone(a.loads[i].Segment.Load)
	}
	return a
}

// spoilTold writes over all lists of what was told, and over the room behind them.
func spoilTold(a stepTold) {
	for i := range a.order.List[:cap(a.order.List)] {
		a.order.List[:cap(a.order.List)][i] = -7
	}
	for _, g := range a.loads {
		spoil(g.Segment.Load)
	}
}

func TestPromise1StepsChangeNothing(t *testing.T) {
	for _, c := range someSteps() {
		k := keepConn(c)
		for _, call := range stepsOf(k.c) {
			call()
		}
		tellSteps(k.c)
		k.check(t, "stepped")
	}
}

func TestPromise1StepsAreNewMemory(t *testing.T) {
	for _, c := range someSteps() {
		k := keepConn(c)
		for name, call := range stepsOf(k.c) {
			got := call()
			was := cloneConns(got)
			spoilConns(got)
			k.check(t, name+" was written over")
			if again := call(); !sameConns(again, was) {
				t.Fatalf("%s that was written over is told again: %+v, was %+v", name, again, was)
			}
		}
		told := tellSteps(k.c)
		was := cloneTold(told)
		spoilTold(told)
		k.check(t, "what was told was written over")
		if again := tellSteps(k.c); !sameTold(again, was) {
			t.Fatalf("what was written over is told again of %+v: %+v, was %+v", c, again, was)
		}
	}
}

// The other way round: an answer stays as it is where an argument is written over.
func TestPromise1StepsStayWhereArgumentsTurn(t *testing.T) {
	for _, c := range someSteps() {
		for name := range stepsOf(c) {
			k := keepConn(c)
			got, told := stepsOf(k.c)[name](), tellSteps(k.c)
			was, wasTold := cloneConns(got), cloneTold(told)
			spoilConns(impl.ConnResult{Conn: k.c})
			if !sameConns(got, was) || !sameTold(told, wasTold) {
				t.Fatalf("%s of %+v turns with its arguments: %+v, was %+v", name, c, got, was)
			}
		}
	}
}

func TestPromise1ListsOfStepsAreApart(t *testing.T) {
	for _, c := range someSteps() {
		for name, call := range stepsOf(c) {
			checkListsApart(t, name, call())
		}
	}
}

func TestPromise1StepsSameArgumentsSameAnswers(t *testing.T) {
	conns := someSteps()
	var first []impl.ConnResult
	var told []stepTold
	for i, c := range conns {
		first, told = append(first, impl.StepConn(c, int64(i%13))), append(told, tellSteps(c))
		if i%2 == 0 {
			spoilConns(impl.StepConn(c, int64(i%13)))
			spoilTold(tellSteps(c))
		}
	}
	for i := len(conns) - 1; i >= 0; i-- {
		if again := impl.StepConn(conns[i], int64(i%13)); !sameConns(again, first[i]) || !sameTold(tellSteps(conns[i]), told[i]) {
			t.Fatalf("StepConn(%+v, %d) = %+v, then %+v", conns[i], i%13, first[i], again)
		}
	}
}

// nil and an empty list are the same value, wherever a list comes in.
func TestPromise1StepsEmptyAndNil(t *testing.T) {
	for _, c := range append(someSteps(), impl.NewConn(0, 5).Conn, impl.NewConn(1, 5).Conn) {
		a, b := emptied(c, true), emptied(c, false)
		others := stepsOf(b)
		for name, call := range stepsOf(a) {
			if x, y := call(), others[name](); !sameConns(x, y) {
				t.Fatalf("%s of %+v tells nil and no bytes apart: %+v, %+v", name, c, x, y)
			}
		}
		if !sameTold(tellSteps(a), tellSteps(b)) {
			t.Fatalf("%+v and %+v are told apart", a, b)
		}
	}
}

// Every function answers at every argument, one wrong beside another, and with a code all else is zero.
func TestPromise1StepsAnswerEverywhere(t *testing.T) {
	check := func(c impl.Conn, n int64, m int64) {
		got := impl.StepConn(c, n)
		if got.Code != impl.OK && !sameConns(got, impl.ConnResult{Code: got.Code}) || got.Code == impl.OK && impl.ConnFault(got.Conn) != impl.OK {
			t.Fatalf("StepConn(%+v, %d) = %+v", c, n, got)
		}
		if chunk := impl.ChunkFor(c, n, m); chunk.Code != impl.OK && chunk != (impl.ChunkResult{Code: chunk.Code}) || chunk.Size < 0 || chunk.Size > 8 || chunk.At < 0 {
			t.Fatalf("ChunkFor(%+v, %d, %d) = %+v", c, n, m, chunk)
		}
		if load := impl.LoadSegment(c, n, m); load.Code != impl.OK && !sameResult(load, impl.SegmentResult{Code: load.Code}) || impl.SegmentFault(load.Segment) != impl.OK {
			t.Fatalf("LoadSegment(%+v, %d, %d) = %+v", c, n, m, load)
		}
		if order := impl.OrderOf(c); order.Code != impl.OK && len(order.List) != 0 || len(order.List) > 3 {
			t.Fatalf("OrderOf(%+v) = %+v", c, order)
		}
		if impl.QuietConn(c) && impl.ConnFault(c) != impl.OK {
			t.Fatalf("%+v is quiet, and has a fault", c)
		}
	}
	numbers := []int64{math.MinInt64, -1, 0, 1, 2, 3, 5, 300, 301, 1000000, 1000001, math.MaxInt64}
	count := 0
	turnedConns(func(c impl.Conn) {
		if count++; count%7 == 0 {
			check(c, numbers[count/7%len(numbers)], numbers[count/91%len(numbers)])
		}
	})
	for i, c := range someSteps() {
		for k, n := range numbers {
			check(c, n, numbers[(i+k)%len(numbers)])
			check(c, n, 0)
			check(c, 0, n)
		}
	}
}
