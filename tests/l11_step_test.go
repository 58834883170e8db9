package tests

import (
	"bytes"
	"math"
	"math/rand"
	"slices"
	"testing"

	"loop.example/g00230/impl"
)

// orderModel takes, for each count of stale flights, the open subs that have just so many.
func orderModel(c impl.Conn) impl.IntsResult {
	if fault := connFaultModel(c); fault != impl.OK {
		return impl.IntsResult{Code: fault}
	}
	var out impl.IntsResult
	for stale := range int64(13) {
		for i, x := range c.Subs {
			if x.State == 3 && staleModel(x).Value == stale {
				out.List = append(out.List, int64(i))
			}
		}
	}
	return out
}

// coveredModel asks one place of each byte that is on its way; of another sub those with three Tries and more do not count.
func coveredModel(c impl.Conn, i int64, place int64) bool {
	for k, x := range c.Subs {
		for _, f := range x.Send.Flights {
			if x.State != 3 || int64(k) != i && f.Tries != 1 && f.Tries != 2 {
				continue
			}
			for n := range f.Load {
				if f.Data+int64(n) == place {
					return true
				}
			}
		}
	}
	return false
}

// chunkModel adds one byte after the other.
func chunkModel(c impl.Conn, i int64, from int64) impl.ChunkResult {
	if fault := connFaultModel(c); fault != impl.OK {
		return impl.ChunkResult{Code: fault}
	}
	wrote := int64(len(c.Wrote))
	switch {
	case i < 0, i >= int64(len(c.Subs)):
		return impl.ChunkResult{Code: impl.ErrNone}
	case from < 0, from > wrote:
		return impl.ChunkResult{Code: impl.ErrRange}
	case !c.Free && (i != 0 || c.Subs[0].State != 3):
		return impl.ChunkResult{}
	}
	at := c.Subs[i].Send.Next
	if c.Free {
		at = from
		for at < c.Acked || at < wrote && coveredModel(c, i, at) {
			at++
		}
	}
	var out impl.ChunkResult
	for out.Size < 8 && out.Size < roomModel(c.Subs[i]).Value && at+out.Size < wrote && !coveredModel(c, i, at+out.Size) {
		out.At = at
		out.Size++
	}
	return out
}

func loadSegmentModel(c impl.Conn, i int64, k int64) impl.SegmentResult {
	if fault := connFaultModel(c); fault != impl.OK {
		return impl.SegmentResult{Code: fault}
	}
	if i < 0 || i >= int64(len(c.Subs)) || k < 0 || k >= int64(len(c.Subs[i].Send.Flights)) {
		return impl.SegmentResult{Code: impl.ErrNone}
	}
	x := c.Subs[i]
	f := x.Send.Flights[k]
	told := tellModel(c, x.Path)
	told.Segment.Seq, told.Segment.Load = leftOf(whole(x.Send.Start), whole(f.At)), slices.Clone(f.Load)
	if !c.Plain {
		told.Segment.Opt, told.Segment.A, told.Segment.B = 4, 1000*f.Data+dataAckModel(c).Value, sumOfLoad(f.Data, f.Load)
	}
	return told
}

func quietModel(c impl.Conn) bool {
	if connFaultModel(c) != impl.OK || c.Acked != int64(len(c.Wrote)) || c.Fin && !c.FinDone {
		return false
	}
	for _, x := range c.Subs {
		if x.State <= 2 || len(x.Send.Flights) > 0 {
			return false
		}
	}
	return true
}

// stepModel goes through the chapter sentence by sentence.
func stepModel(c impl.Conn, now int64) impl.ConnResult {
	if fault := connFaultModel(c); fault != impl.OK {
		return impl.ConnResult{Code: fault}
	}
	if now < 0 || now > 1000000 {
		return impl.ConnResult{Code: impl.ErrRange}
	}
	out := impl.ConnResult{Conn: cloneConn(c)}
	for i := range out.Conn.Subs {
		againModel(&out, i, now)
	}
	for n := 0; n < 24 && anewModel(&out, now); n++ {
	}
	if is := out.Conn; is.Fin && !is.FinDone && is.Acked == int64(len(is.Wrote)) && now%4 == 0 {
		for _, i := range orderModel(is).List {
			g := tellModel(is, is.Subs[i].Path).Segment
			g.Ackd = false
			out.Send = append(out.Send, g)
		}
	}
	return out
}

func againModel(out *impl.ConnResult, i int, now int64) {
	c := &out.Conn
	x := &c.Subs[i]
	if x.State <= 2 && now >= x.Sent+4 {
		x.Sent = now
		g := answerModel(*c, x.Path).Segment
		if x.State == 1 {
			g = askModel(*c, *x)
		}
		out.Send = append(out.Send, g)
	}
	if x.State != 3 {
		return
	}
	due := dueModel(x.Send, now, 4).List
	for _, k := range due {
		x.Send = touchModel(x.Send, k, now).Sender
		out.Send = append(out.Send, loadSegmentModel(*c, int64(i), k).Segment)
	}
	if len(due) > 0 {
		x.Control = fallModel(x.Control).Control
	}
}

// askModel is what DialConn sent: a Join of a Peer that is not known has no token.
func askModel(c impl.Conn, x impl.Sub) impl.Segment {
	g := impl.Segment{Path: x.Path, From: c.Side, Syn: true, Seq: x.Send.Start, Opt: 1, A: c.Key}
	if x.Join {
		g.Opt, g.A, g.B = 2, 0, x.Nonce
		if c.Peer != 0 {
			g.A = mixModel(c.Peer, 1)
		}
	}
	return g
}

func anewModel(out *impl.ConnResult, now int64) bool {
	c := &out.Conn
	for _, i := range orderModel(*c).List {
		chunk := chunkModel(*c, i, 0)
		if chunk.Size == 0 {
			continue
		}
		x := &c.Subs[i]
		pushed := pushModel(x.Send, chunk.At, c.Wrote[chunk.At:chunk.At+chunk.Size], now)
		if pushed.Code != impl.OK {
			return false
		}
		x.Send = pushed.Sender
		out.Send = append(out.Send, loadSegmentModel(*c, i, int64(len(x.Send.Flights)-1)).Segment)
		return true
	}
	return false
}

// carrying is an open path with that window and those flights.
func carrying(path int64, window int64, flights ...impl.Flight) impl.Sub {
	x := subIn(impl.SubOpen, senderWith(65530+path, 0, flights...))
	x.Path, x.Join, x.Control.Window = path, false, window
	return x
}

// sideWith has that written and those paths, the ones behind the first being Joins.
func sideWith(side int64, wrote int, free bool, subs ...impl.Sub) impl.Conn {
	c := impl.Conn{Side: side, Key: 5, Peer: 7, Free: free, Wrote: lettersOf(wrote), In: gatherWith("abc"), FinIn: -1, Subs: slices.Clone(subs)}
	for i := range c.Subs {
		c.Subs[i].Join = i > 0
	}
	return c
}

// manyFlights are so many flights of so many bytes, one behind the other from that place of the stream on.
func manyFlights(count int, size int, from int64, sent int64, tries int64) (out []impl.Flight) {
	for i := range int64(count) {
		out = append(out, flight(from+i*int64(size), string(lettersOf(size)), sent, tries))
	}
	return out
}

// flightKinds are what a path may have on its way, of a stream of some 24 bytes: nothing, what is fresh and stale, a part, several, and as much as may be.
func flightKinds() [][]impl.Flight {
	return [][]impl.Flight{
		nil,
		{flight(0, "abcdefgh", 6, 1)},
		{flight(0, "abcdefgh", 3, 2)},
		{flight(0, "abcdefgh", 6, 3)},
		{flight(0, "abcdefgh", 2, 4)},
		{flight(3, "de", 6, 1), flight(12, "mn", 7, 3)},
		{flight(4, "efg", 1, 3), flight(5, "fg", 5, 2), flight(20, "u", 9, 1)},
		{flight(8, "ijklmnop", 4, 1000), flight(0, "abc", 0, 999)},
		{flight(392, "xxxxxxxx", 6, 1), flight(23, "y", 6, 1)},
		{flight(0, "abcdefgh", 6, 1), flight(8, "ijklmnop", 6, 1), flight(16, "qrstuvwx", 6, 1)},
		manyFlights(12, 1, 2, 6, 1),
		manyFlights(12, 2, 0, 6, 3),
		manyFlights(12, 5, 0, 2, 2),
	}
}

// steppingConns are conns without a fault whose paths have each kind of flights, beside each other kind.
func steppingConns() (out []impl.Conn) {
	windows := []int64{8, 16, 64, 9}
	wrotes := []int{24, 0, 3, 24, 40, 300, 8}
	kinds := flightKinds()
	for i, one := range kinds {
		for k, two := range kinds {
			n := len(out)
			a, b := carrying(int64(n%3), windows[n%4], one...), carrying(int64((n+1)%3), windows[(n/4+k)%4], two...)
			c := carrying(int64((n+2)%3), windows[k%4], kinds[(i+2*k)%len(kinds)]...)
			wrote := wrotes[n/3%len(wrotes)]
			out = append(out, sideWith(int64(k%2), 24, true, a, b), sideWith(int64(n%2), wrote, true, a, b, c), sideWith(int64(i%2), wrote, false, a, b))
			for acked := range []int64{0, 1, 2, 3} {
				c := cloneConn(out[n+acked%3])
				c.Acked = []int64{int64(len(c.Wrote)), int64(len(c.Wrote)) / 3, min(5, int64(len(c.Wrote))), min(8, int64(len(c.Wrote)))}[acked]
				c.Fin = (i+k+acked)%2 == 0
				c.FinDone = c.Fin && acked == 0 && k%2 == 0
				out = append(out, c)
			}
		}
		alone := sideWith(int64(i%2), 24, false, carrying(int64(i%3), windows[i%4], one...))
		out = append(out, alone, with(alone, func(c *impl.Conn) { c.Plain = true }), with(alone, func(c *impl.Conn) { c.Plain, c.Fin, c.Acked = true, true, 24 }))
	}
	return append(out, edgeConns()...)
}

// edgeConns have their senders at the end of their places, and ends that are known and are not.
func edgeConns() (out []impl.Conn) {
	for _, next := range []int64{999980, 999992, 999993, 999999, 1000000} {
		late := carrying(0, 64)
		late.Send = impl.Sender{Start: 65535, Next: next, Acked: next}
		for _, subs := range [][]impl.Sub{{late, carrying(1, 16)}, {carrying(1, 16), late}, {carrying(1, 8, manyFlights(1, 8, 0, 6, 3)...), late}} {
			out = append(out, sideWith(0, 24, true, subs...), sideWith(1, 300, true, subs...), sideWith(1, 24, false, subs...))
		}
	}
	for n := range 16 {
		c := sideWith(int64(n%2), 24, n&2 != 0, carrying(2, 16), carrying(0, 8, flight(3, "de", 6, int64(1+n%4))))
		c.Fin, c.Acked = n&4 != 0, []int64{24, 23}[n>>3]
		out = append(out, c)
		if c.Fin && c.Acked == 24 {
			c.FinDone = true
			out = append(out, c)
		}
	}
	return out
}

// drawnSteps are conns without a fault, drawn from a seed: most flights lie within what was written.
func drawnSteps(count int, seed int64) (out []impl.Conn) {
	draw := rand.New(rand.NewSource(seed))
	for range count {
		wrote := []int{0, 1, 7, 8, 9, 20, 50, 120, 300}[draw.Intn(9)]
		var subs []impl.Sub
		for _, path := range draw.Perm(3)[:draw.Intn(4)] {
			var flights []impl.Flight
			for range draw.Intn(13) * draw.Intn(2) {
				load := lettersOf(1 + draw.Intn(8))
				flights = append(flights, flight(draw.Int63n(int64(min(wrote+9, 390))), string(load), draw.Int63n(12), []int64{1, 1, 1, 2, 3, 4, 1000}[draw.Intn(7)]))
			}
			x := carrying(int64(path), 8+draw.Int63n(57), flights...)
			x.Control.Bound, x.Control.Part, x.Sent = draw.Int63n(65), draw.Int63n(64), draw.Int63n(12)
			subs = append(subs, x)
		}
		c := sideWith(draw.Int63n(2), wrote, len(subs) > 1 && draw.Intn(4) > 0, subs...)
		c.Plain = len(subs) < 2 && draw.Intn(2) == 0
		c.Acked = []int64{0, draw.Int63n(int64(wrote) + 1), int64(wrote)}[draw.Intn(3)]
		c.Fin = draw.Intn(2) == 0
		c.FinDone = c.Fin && c.Acked == int64(wrote) && draw.Intn(3) == 0
		for i := range c.Subs {
			beginDrawn(draw, &c, i)
		}
		out = append(out, c)
	}
	return out
}

// beginDrawn closes some paths, and has some of them not open yet, where that is no fault.
func beginDrawn(draw *rand.Rand, c *impl.Conn, i int) {
	if draw.Intn(4) > 0 {
		return
	}
	x := &c.Subs[i]
	x.Send = impl.Sender{Start: x.Send.Start}
	x.State = []int64{impl.SubClosed, 1 + c.Side}[draw.Intn(2)]
	if connFaultModel(*c) != impl.OK {
		x.State = impl.SubClosed
	}
}

// rightSteps are all conns without a fault that a step is asked of.
func rightSteps() []impl.Conn {
	return slices.Concat(rightConns(), drawnConns(150), hearingConns(), steppingConns(), drawnSteps(600, 330))
}

// stepTimes are the ends of what a time may be, and times at which some flights are due and some are not.
func stepTimes() []int64 {
	return []int64{0, 1, 4, 5, 6, 7, 8, 9, 10, 12, 15, 999999, 1000000}
}

func checkStep(t *testing.T, c impl.Conn, now int64) impl.ConnResult {
	t.Helper()
	got, want := impl.StepConn(c, now), stepModel(c, now)
	if !sameConns(got, want) {
		t.Fatalf("StepConn(%+v, %d) = %+v, want %+v", c, now, got, want)
	}
	return got
}

func TestStepConnAgainstModel(t *testing.T) {
	did := map[string]int{}
	times := stepTimes()
	for n, c := range rightSteps() {
		for k := range 4 {
			now := times[(n+4*k)%len(times)]
			countSteps(did, c, checkStep(t, c, now))
		}
		checkStep(t, c, []int64{-1, 1000001, math.MinInt64, math.MaxInt64}[n%4])
	}
	for n, c := range wrongConns() {
		checkStep(t, c, []int64{5, -1, 1000001}[n%3])
	}
	for _, what := range []string{"nothing", "asked again", "answered again", "again", "anew", "an end", "many", "a window that fell", "again and anew", "over two paths"} {
		if did[what] < 50 {
			t.Errorf("%s came only %d times", what, did[what])
		}
	}
}

// countSteps counts what was sent, so that no kind of sending is left out unseen.
func countSteps(did map[string]int, c impl.Conn, stepped impl.ConnResult) {
	add := func(what string, so bool) {
		if so {
			did[what]++
		}
	}
	again, anew, paths := 0, 0, 0
	for i, x := range c.Subs {
		y := stepped.Conn.Subs[i]
		more := len(y.Send.Flights) - len(x.Send.Flights)
		anew += more
		if more > 0 {
			paths++
		}
		for k, f := range x.Send.Flights {
			if y.Send.Flights[k].Tries > f.Tries {
				again++
			}
		}
		add("a window that fell", y.Control != x.Control)
	}
	add("nothing", len(stepped.Send) == 0)
	add("again", again > 0)
	add("anew", anew > 0)
	add("again and anew", again > 0 && anew > 0)
	add("over two paths", paths > 1)
	add("many", anew >= 8)
	for _, g := range stepped.Send {
		add("asked again", g.Syn && !g.Ackd)
		add("answered again", g.Syn && g.Ackd)
		add("an end", !g.Syn && !g.Ackd)
	}
}

// The codes stand in their order: the conn's, then the time.
func TestStepConnCodes(t *testing.T) {
	right := connAt(1, pathsOf(0, impl.SubOpen)...)
	many := with(right, func(c *impl.Conn) { c.Wrote = lettersOf(301) })
	rows := []struct {
		what string
		c    impl.Conn
		now  int64
		code int64
	}{
		{"ordinary", right, 5, impl.OK},
		{"now 0", right, 0, impl.OK},
		{"now 10^6", right, 1000000, impl.OK},
		{"now -1", right, -1, impl.ErrRange},
		{"now 10^6 + 1", right, 1000001, impl.ErrRange},
		{"now least", right, math.MinInt64, impl.ErrRange},
		{"now greatest", right, math.MaxInt64, impl.ErrRange},
		{"too much written", many, 5, impl.ErrMany},
		{"too much written, ahead of now", many, -1, impl.ErrMany},
		{"no subs", impl.NewConn(0, 5).Conn, 5, impl.OK},
		{"no subs, now -1", impl.NewConn(0, 5).Conn, -1, impl.ErrRange},
		{"the zero conn", impl.Conn{}, 0, impl.ErrRange},
	}
	for _, row := range rows {
		got := impl.StepConn(row.c, row.now)
		if got.Code != row.code || row.code != impl.OK && !sameConns(got, impl.ConnResult{Code: row.code}) {
			t.Errorf("%s: StepConn = %+v, want the code %d", row.what, got, row.code)
		}
	}
}

// stepRow is a conn that steps, and what becomes of it.
type stepRow struct {
	what string
	c    impl.Conn
	now  int64
	turn func(c *impl.Conn)
	send []impl.Segment
}

func checkStepRows(t *testing.T, rows []stepRow) {
	t.Helper()
	for _, row := range rows {
		want := impl.ConnResult{Conn: cloneConn(row.c), Send: row.send}
		if row.turn != nil {
			row.turn(&want.Conn)
		}
		if got := impl.StepConn(row.c, row.now); !sameConns(got, want) {
			t.Errorf("%s: StepConn = %+v, want %+v", row.what, got, want)
		}
	}
}

// What is asked or answered and not open yet is told again, once WaitTicks have gone by.
func TestStepConnBeginsAgain(t *testing.T) {
	const asked, answered, open, closed = impl.SubAsked, impl.SubAnswered, impl.SubOpen, impl.SubClosed
	// The paths were Sent at 2, their senders begin at 65530 and the path more.
	first := connAt(0, pathsOf(1, asked)...)
	joins := connAt(0, pathsOf(1, closed, asked, asked)...)
	there := connAt(1, pathsOf(1, answered)...)
	two := connAt(1, pathsOf(1, answered, answered)...)
	sent := func(now int64, places ...int) func(c *impl.Conn) {
		return func(c *impl.Conn) {
			for _, i := range places {
				c.Subs[i].Sent = now
			}
		}
	}
	plain := func(c impl.Conn) impl.Conn { return with(c, func(c *impl.Conn) { c.Plain = true }) }
	unknown := func(c impl.Conn) impl.Conn { return with(c, func(c *impl.Conn) { c.Peer = 0 }) }
	ask := []impl.Segment{{Path: 1, Syn: true, Seq: 65531, Opt: impl.OptKey, A: 5}}
	join := func(token int64, paths ...int64) (out []impl.Segment) {
		for _, path := range paths {
			out = append(out, impl.Segment{Path: path, Syn: true, Seq: 65530 + path, Opt: impl.OptJoin, A: token, B: 3})
		}
		return out
	}
	answer := impl.Segment{Path: 1, From: 1, Syn: true, Ackd: true, Seq: 65531, Ack: 7, Opt: impl.OptKey, A: 5}
	bare := impl.Segment{Path: 1, From: 1, Syn: true, Ackd: true, Seq: 65531, Ack: 7}
	proof := impl.Segment{Path: 2, From: 1, Syn: true, Ackd: true, Seq: 65532, Ack: 7, Opt: impl.OptProof, A: mixModel(5, 7, 4), B: 3}
	ended := with(first, func(c *impl.Conn) { c.Fin, c.Acked = true, 5 })
	checkStepRows(t, []stepRow{
		{"asked, 3 ticks ago", first, 5, nil, nil},
		{"asked, 4 ticks ago", first, 6, sent(6, 0), ask},
		{"asked, 5 ticks ago", first, 7, sent(7, 0), ask},
		{"asked, long ago", first, 1000000, sent(1000000, 0), ask},
		{"asked, now is ahead of that", first, 0, nil, nil},
		{"asked, Plain", plain(first), 6, sent(6, 0), ask},
		{"asked, ended: an end is told over open paths alone", ended, 8, sent(8, 0), ask},
		{"joins, 3 ticks ago", joins, 5, nil, nil},
		{"joins, 4 ticks ago", joins, 6, sent(6, 1, 2), join(mixModel(7, 1), 2, 0)},
		{"joins, one of them 3 ticks ago", with(joins, sent(3, 1)), 6, sent(6, 2), join(mixModel(7, 1), 0)},
		{"joins, Peer not known: no token", unknown(joins), 6, sent(6, 1, 2), join(0, 2, 0)},
		{"answered, 3 ticks ago", there, 5, nil, nil},
		{"answered, 4 ticks ago", there, 6, sent(6, 0), []impl.Segment{answer}},
		{"answered, Plain", plain(there), 6, sent(6, 0), []impl.Segment{bare}},
		{"a join that is answered", two, 6, sent(6, 0, 1), []impl.Segment{answer, proof}},
		{"a join that is answered alone", with(two, sent(5, 0)), 6, sent(6, 1), []impl.Segment{proof}},
		{"closed", connAt(0, pathsOf(1, closed)...), 1000000, nil, nil},
		{"no subs", connAt(0), 1000000, nil, nil},
		{"open, nothing on its way, Sent long ago", with(connAt(0, pathsOf(0, open)...), func(c *impl.Conn) { c.Subs[0].Send = impl.Sender{Start: 9, Next: 5, Acked: 5} }), 1000000, nil, nil},
	})
}

// What DialConn sent is sent again just as it was.
func TestStepConnAsksAsDialConnDid(t *testing.T) {
	first := impl.DialConn(impl.NewConn(0, 42).Conn, 1, 8, 10)
	open := impl.HearConn(first.Conn, impl.Segment{Path: 1, From: 1, Syn: true, Ackd: true, Seq: 3, Ack: first.Send[0].Seq, Opt: impl.OptKey, A: 99}, 11).Conn
	for _, dialed := range []impl.ConnResult{first, impl.DialConn(open, 2, 1000000, 10), impl.DialConn(open, 0, 0, 10)} {
		for now := int64(10); now < 14; now++ {
			if got := impl.StepConn(dialed.Conn, now); len(got.Send) != 0 || !sameConn(got.Conn, dialed.Conn) {
				t.Errorf("at %d is sent %+v", now, got.Send)
			}
		}
		for _, now := range []int64{14, 15, 1000000} {
			got := impl.StepConn(dialed.Conn, now)
			if !slices.EqualFunc(got.Send, dialed.Send, sameFields) || got.Conn.Subs[len(got.Conn.Subs)-1].Sent != now {
				t.Errorf("at %d is sent %+v, DialConn sent %+v", now, got.Send, dialed.Send)
			}
			if again := impl.StepConn(got.Conn, now); len(again.Send) != 0 {
				t.Errorf("at %d is sent twice: %+v", now, again.Send)
			}
		}
	}
}

// touchedAt is those flights as they are once the ones at these places were touched.
func touchedAt(flights []impl.Flight, now int64, places ...int) []impl.Flight {
	flights = slices.Clone(flights)
	for _, k := range places {
		flights[k].Sent, flights[k].Tries = now, min(flights[k].Tries+1, 1000)
	}
	return flights
}

// What is due is touched and sent again, over its own path, and the window falls once.
func TestStepConnSendsAgain(t *testing.T) {
	flights := []impl.Flight{flight(0, "ab", 2, 1), flight(2, "cde", 4, 2), flight(5, "f", 3, 1000)}
	c := sideWith(0, 6, false, carrying(1, 33, flights...))
	load := func(k int) impl.Segment {
		f := c.Subs[0].Send.Flights[k]
		return impl.Segment{Path: 1, Ackd: true, Seq: (65531 + f.At) % 65536, Ack: 12, Opt: impl.OptMap, A: 1000*f.Data + 3, B: sumOfLoad(f.Data, f.Load), Load: f.Load}
	}
	bare := func(k int) impl.Segment { return impl.StripSegment(load(k)) }
	again := func(now int64, places ...int) func(c *impl.Conn) {
		return func(c *impl.Conn) {
			x := &c.Subs[0]
			x.Send.Flights = touchedAt(x.Send.Flights, now, places...)
			x.Control = impl.Control{Window: 8, Bound: 16}
		}
	}
	ended := with(c, func(c *impl.Conn) { c.Fin = true })
	endedLoad := load(0)
	endedLoad.End = 7
	known := with(c, func(c *impl.Conn) { c.FinIn = 3 })
	knownLoad := load(0)
	knownLoad.A = 4
	narrow := with(c, func(c *impl.Conn) { c.Subs[0].Control = impl.Control{Window: 9, Bound: 3, Part: 5} })
	checkStepRows(t, []stepRow{
		{"none is due", c, 5, nil, nil},
		{"now is ahead of all", c, 0, nil, nil},
		{"one is due", c, 6, again(6, 0), []impl.Segment{load(0)}},
		{"two are due", c, 7, again(7, 0, 2), []impl.Segment{load(0), load(2)}},
		{"all are due", c, 8, again(8, 0, 1, 2), []impl.Segment{load(0), load(1), load(2)}},
		{"all, at the last time", c, 1000000, again(1000000, 0, 1, 2), []impl.Segment{load(0), load(1), load(2)}},
		{"Plain", with(c, func(c *impl.Conn) { c.Plain = true }), 7, again(7, 0, 2), []impl.Segment{bare(0), bare(2)}},
		{"ended", ended, 6, again(6, 0), []impl.Segment{endedLoad}},
		{"what came in is all", known, 6, again(6, 0), []impl.Segment{knownLoad}},
		{"what is known to be there is sent again, too", with(c, func(c *impl.Conn) { c.Acked = 6 }), 6, again(6, 0), []impl.Segment{load(0)}},
		{"a narrow window", narrow, 6, func(c *impl.Conn) {
			again(6, 0)(c)
			c.Subs[0].Control = impl.Control{Window: 8, Bound: 8}
		}, []impl.Segment{load(0)}},
	})
}

// Over several paths: sub by sub what is due, and then what is new, the less stale paths first.
func TestStepConnOneBehindTheOther(t *testing.T) {
	a, b, c := carrying(0, 16, flight(0, "abcd", 2, 1)), carrying(1, 16, flight(4, "efgh", 5, 1)), carrying(2, 16, flight(8, "ij", 1, 2))
	side := sideWith(1, 13, true, c, a, b)
	got := impl.StepConn(side, 6)
	// "ij" is stale by now: it is sent again over its own path, and anew over the path 0, as far as the window that fell has room.
	rows := []struct {
		path int64
		load string
		data int64
	}{{2, "ij", 8}, {0, "abcd", 0}, {0, "ijkl", 8}, {1, "m", 12}}
	if got.Code != impl.OK || len(got.Send) != len(rows) {
		t.Fatalf("StepConn = %+v", got)
	}
	for n, want := range rows {
		if g := got.Send[n]; g.Path != want.path || string(g.Load) != want.load || g.A != 1000*want.data+3 || !g.Ackd {
			t.Errorf("the segment %d is %+v, want %+v", n, g, want)
		}
	}
	for i, x := range got.Conn.Subs {
		if x.Control.Window != []int64{8, 8, 16}[i] || len(x.Send.Flights) != []int{1, 2, 2}[i] {
			t.Errorf("the sub %d is %+v", i, x)
		}
	}
	if next := impl.StepConn(got.Conn, 7); len(next.Send) != 0 || !sameConn(next.Conn, got.Conn) {
		t.Errorf("a tick later is sent %+v", next.Send)
	}
}

// What is stale over one path goes over another one; the path itself sends it again, but never anew.
func TestStepConnStaleGoesOverAnotherPath(t *testing.T) {
	for tries := int64(1); tries <= 5; tries++ {
		side := sideWith(0, 8, true, carrying(0, 16, flight(0, "abcdefgh", 5, tries)), carrying(1, 16))
		got := impl.StepConn(side, 6)
		anew := len(got.Send) == 1 && got.Send[0].Path == 1 && string(got.Send[0].Load) == "abcdefgh"
		if anew != (tries >= 3) || len(got.Send) > 1 {
			t.Errorf("with %d Tries is sent %+v", tries, got.Send)
		}
		// Just touched: the Tries are one more.
		got = impl.StepConn(side, 9)
		anew = len(got.Send) == 2 && got.Send[1].Path == 1
		if got.Send[0].Path != 0 || string(got.Send[0].Load) != "abcdefgh" || anew != (tries >= 2) || !anew && len(got.Send) != 1 {
			t.Errorf("with %d Tries, due, is sent %+v", tries, got.Send)
		}
		alone := sideWith(0, 8, true, carrying(0, 16, flight(0, "abcdefgh", 5, tries)), pathOf(1, impl.SubClosed, true))
		if got := impl.StepConn(alone, 6); len(got.Send) != 0 {
			t.Errorf("with %d Tries over a path that is alone is sent %+v", tries, got.Send)
		}
	}
}

// What is sent anew fills the windows, at most 24 loads at once.
func TestStepConnSendsAnew(t *testing.T) {
	paths := func(windows ...int64) (out []impl.Sub) {
		for i, w := range windows {
			out = append(out, carrying(int64(i), w))
		}
		return out
	}
	rows := []struct {
		what  string
		c     impl.Conn
		sizes []int
		paths []int64
	}{
		{"one path", sideWith(0, 11, false, paths(16)...), []int{8, 3}, []int64{0, 0}},
		{"one path, a window that is less", sideWith(0, 24, false, paths(13)...), []int{8, 5}, []int64{0, 0}},
		{"nothing written", sideWith(0, 0, false, paths(16)...), nil, nil},
		{"not Free: the first path alone", sideWith(0, 40, false, paths(16, 64)...), []int{8, 8}, []int64{0, 0}},
		{"Free: the second path where the first one is full", sideWith(0, 40, true, paths(12, 64)...), []int{8, 4, 8, 8, 8, 4}, []int64{0, 0, 1, 1, 1, 1}},
		{"three paths", sideWith(1, 40, true, paths(8, 9, 10)...), []int{8, 8, 1, 8, 2}, []int64{0, 1, 1, 2, 2}},
		{"as many as 24", sideWith(1, 300, true, paths(64, 64, 64)...), slices.Repeat([]int{8}, 24), slices.Concat(slices.Repeat([]int64{0}, 8), slices.Repeat([]int64{1}, 8), slices.Repeat([]int64{2}, 8))},
	}
	for _, row := range rows {
		got := impl.StepConn(row.c, 6)
		var sizes []int
		var over []int64
		var all []byte
		for _, g := range got.Send {
			sizes, over, all = append(sizes, len(g.Load)), append(over, g.Path), append(all, g.Load...)
		}
		if got.Code != impl.OK || !slices.Equal(sizes, row.sizes) || !slices.Equal(over, row.paths) || !bytes.HasPrefix(row.c.Wrote, all) {
			t.Errorf("%s: %v over %v: %+v", row.what, sizes, over, got.Send)
		}
		for _, x := range got.Conn.Subs {
			for _, f := range x.Send.Flights {
				if f.Sent != 6 || f.Tries != 1 {
					t.Errorf("%s: the flight %+v is new", row.what, f)
				}
			}
		}
	}
}

// Of more than 24 chunks the rest waits for the next step.
func TestStepConnAtMost24(t *testing.T) {
	// Every other byte is on its way: the path 0 fills ten gaps of one byte, the others have room for eight loads each.
	comb := func(path int64, places ...int64) impl.Sub {
		var flights []impl.Flight
		for _, place := range places {
			flights = append(flights, flight(place, "x", 6, 1))
		}
		return carrying(path, 64, flights...)
	}
	side := sideWith(0, 300, true, comb(0, 1, 3), comb(1, 5, 7, 9, 11), comb(2, 13, 15, 17, 19))
	once := impl.StepConn(side, 6)
	if len(once.Send) != 24 {
		t.Fatalf("%d are sent: %+v", len(once.Send), once.Send)
	}
	over := map[int64]int{}
	for _, g := range once.Send {
		over[g.Path]++
	}
	if over[0] != 10 || over[1] != 8 || over[2] != 6 {
		t.Errorf("over the paths go %v", over)
	}
	twice := impl.StepConn(once.Conn, 6)
	if len(twice.Send) != 2 || twice.Send[0].Path != 2 || twice.Send[1].Path != 2 || len(twice.Send[1].Load) != 4 {
		t.Errorf("then are sent %+v", twice.Send)
	}
	if rest := impl.StepConn(twice.Conn, 6); len(rest.Send) != 0 || !sameConn(rest.Conn, twice.Conn) {
		t.Errorf("at last are sent %+v", rest.Send)
	}
}

// What is sent again does not count among the 24.
func TestStepConnAgainBeside24(t *testing.T) {
	var subs []impl.Sub
	for path := range int64(3) {
		subs = append(subs, carrying(path, 64, manyFlights(12, 1, 12*path, 2, 1)...))
	}
	side := sideWith(1, 36, true, subs...)
	if got := impl.StepConn(side, 6); len(got.Send) != 36 {
		t.Errorf("%d are sent again: %+v", len(got.Send), got.Send)
	}
}

// A path whose places are used up sends nothing anew, and neither does a path behind it in the order.
func TestStepConnAtTheLastPlace(t *testing.T) {
	late := func(next int64) impl.Sub {
		x := carrying(0, 64)
		x.Send = impl.Sender{Start: 9, Next: next, Acked: next}
		return x
	}
	for _, row := range []struct {
		next  int64
		loads int
	}{{999984, 2}, {999985, 1}, {999992, 1}, {999993, 0}, {999999, 0}, {1000000, 0}} {
		side := sideWith(0, 40, true, late(row.next), carrying(1, 64))
		got := impl.StepConn(side, 6)
		if got.Code != impl.OK || len(got.Send) != row.loads || impl.ConnFault(got.Conn) != impl.OK {
			t.Errorf("at the place %d: %+v", row.next, got)
		}
		ahead := impl.StepConn(sideWith(0, 40, true, carrying(1, 64), late(row.next)), 6)
		if len(ahead.Send) != 5 || impl.ConnFault(ahead.Conn) != impl.OK {
			t.Errorf("at the place %d, behind another path: %+v", row.next, ahead)
		}
	}
}

// An end that is not known is told over each open path, every WaitTicks, by a segment that is not Ackd.
func TestStepConnTellsTheEnd(t *testing.T) {
	stale := carrying(1, 16, flight(0, "a", 9, 3))
	c := sideWith(0, 5, true, stale, carrying(2, 16), pathOf(0, impl.SubAsked, true))
	c.Fin, c.Acked, c.Subs[2].Sent = true, 5, 9
	told := func(path, seq, a int64) impl.Segment {
		return impl.Segment{Path: path, Seq: seq, Ack: 12, End: 6, Opt: impl.OptMap, A: a}
	}
	both := []impl.Segment{told(2, 65532, 3), told(1, 65532, 3)}
	alone := sideWith(1, 0, false, carrying(0, 16))
	alone.Fin = true
	one := []impl.Segment{{From: 1, Seq: 65530, Ack: 12, End: 1, Opt: impl.OptMap, A: 3}}
	bare := []impl.Segment{{From: 1, Seq: 65530, Ack: 12, End: 1}}
	set := func(c impl.Conn, turn func(c *impl.Conn)) impl.Conn { return with(c, turn) }
	checkStepRows(t, []stepRow{
		{"two open paths, the less stale one first", c, 12, nil, both},
		{"1 tick late", set(c, func(c *impl.Conn) { c.Subs[2].Sent = 13 }), 13, func(c *impl.Conn) {
			x := &c.Subs[0]
			x.Send.Flights, x.Control = touchedAt(x.Send.Flights, 13, 0), impl.Control{Window: 8, Bound: 8}
		}, []impl.Segment{{Path: 1, Ackd: true, Seq: 65531, Ack: 12, End: 6, Opt: impl.OptMap, A: 3, B: sumOfLoad(0, []byte("a")), Load: []byte("a")}}},
		{"no end", set(c, func(c *impl.Conn) { c.Fin = false }), 12, nil, nil},
		{"the end is known", set(c, func(c *impl.Conn) { c.FinDone = true }), 12, nil, nil},
		{"nothing written", alone, 0, nil, one},
		{"at 4", alone, 4, nil, one},
		{"at 1", alone, 1, nil, nil},
		{"at 2", alone, 2, nil, nil},
		{"at 3", alone, 3, nil, nil},
		{"at 10^6", alone, 1000000, nil, one},
		{"at 999999", alone, 999999, nil, nil},
		{"Plain", set(alone, func(c *impl.Conn) { c.Plain = true }), 8, nil, bare},
		{"what came in is all", set(alone, func(c *impl.Conn) { c.FinIn = 3 }), 8, nil, []impl.Segment{{From: 1, Seq: 65530, Ack: 12, End: 1, Opt: impl.OptMap, A: 4}}},
		{"closed", sideEnded(pathOf(0, impl.SubClosed, false)), 8, nil, nil},
		{"no subs", sideEnded(), 8, nil, nil},
	})
	// What is not known to be there keeps the end back, and so does what is written and sent just now.
	behind := set(c, func(c *impl.Conn) { c.Acked = 4 })
	for _, g := range impl.StepConn(behind, 12).Send {
		if !g.Ackd {
			t.Errorf("an end is told with 4 of 5 known: %+v", g)
		}
	}
}

func sideEnded(subs ...impl.Sub) impl.Conn {
	c := sideWith(0, 0, false, subs...)
	c.Fin = true
	return c
}

func TestOrderOf(t *testing.T) {
	const asked, answered, open, closed = impl.SubAsked, impl.SubAnswered, impl.SubOpen, impl.SubClosed
	stale := func(path int64, tries ...int64) impl.Sub {
		var flights []impl.Flight
		for i, n := range tries {
			flights = append(flights, flight(int64(i), "x", 2, n))
		}
		return carrying(path, 64, flights...)
	}
	rows := []struct {
		what string
		c    impl.Conn
		want []int64
	}{
		{"no subs", connAt(0), nil},
		{"one", connAt(0, pathsOf(2, open)...), []int64{0}},
		{"one that is closed", connAt(0, pathsOf(2, closed)...), nil},
		{"one that is asked", connAt(0, pathsOf(2, asked)...), nil},
		{"one that is answered", connAt(1, pathsOf(2, answered)...), nil},
		{"three alike", connAt(1, pathsOf(2, open, open, open)...), []int64{0, 1, 2}},
		{"the open ones alone", connAt(0, pathsOf(1, closed, open, asked)...), []int64{1}},
		{"the open ones alone, first and last", connAt(1, pathsOf(1, open, answered, open)...), []int64{0, 2}},
		{"the first one is stale", sideWith(0, 5, true, stale(0, 3), stale(1)), []int64{1, 0}},
		{"the first one has two Tries", sideWith(0, 5, true, stale(0, 2), stale(1)), []int64{0, 1}},
		{"many Tries count once", sideWith(0, 5, true, stale(0, 1000), stale(1, 3, 3)), []int64{0, 1}},
		{"as many", sideWith(0, 5, true, stale(2, 3, 1), stale(1, 4), stale(0, 1, 1, 1000)), []int64{0, 1, 2}},
		{"more and more", sideWith(0, 5, false, stale(0, 3, 3, 3), stale(1, 3, 3), stale(2, 3)), []int64{2, 1, 0}},
		{"two as many behind one", sideWith(0, 5, true, stale(0, 3, 3), stale(1, 3), stale(2, 3)), []int64{1, 2, 0}},
		{"two as many ahead of one", sideWith(0, 5, true, stale(0, 3), stale(1, 3, 3), stale(2, 3)), []int64{0, 2, 1}},
		{"all flights", sideWith(0, 5, true, stale(0, 3, 3, 3, 3, 3, 3, 3, 3, 3, 3, 3, 3), stale(1, 3, 3, 3, 3, 3, 3, 3, 3, 3, 3, 3)), []int64{1, 0}},
	}
	for _, row := range rows {
		if got := impl.OrderOf(row.c); !sameInts(got, impl.IntsResult{List: row.want}) {
			t.Errorf("%s: OrderOf = %+v, want %v", row.what, got, row.want)
		}
	}
	if got := impl.OrderOf(impl.Conn{}); !sameInts(got, impl.IntsResult{Code: impl.ErrRange}) {
		t.Errorf("of the zero conn: %+v", got)
	}
}

func TestChunkForOfOnePath(t *testing.T) {
	const asked, open, closed = impl.SubAsked, impl.SubOpen, impl.SubClosed
	one := func(wrote int, window int64, flights ...impl.Flight) impl.Conn {
		return sideWith(0, wrote, false, carrying(1, window, flights...))
	}
	sent := func(wrote int, next int64) impl.Conn {
		return with(one(wrote, 64), func(c *impl.Conn) { c.Subs[0].Send.Next, c.Subs[0].Send.Acked = next, next })
	}
	two := sideWith(0, 40, false, carrying(1, 16), carrying(2, 16))
	shut := sideWith(0, 40, false, pathOf(1, closed, false), carrying(2, 16))
	rows := []struct {
		what string
		c    impl.Conn
		i    int64
		from int64
		want impl.ChunkResult
	}{
		{"a whole load", one(11, 16), 0, 0, impl.ChunkResult{Size: 8}},
		{"the rest", one(11, 16, flight(0, "abcdefgh", 5, 1)), 0, 0, impl.ChunkResult{At: 8, Size: 3}},
		{"from does not count", one(11, 16), 0, 5, impl.ChunkResult{Size: 8}},
		{"from at the end", one(11, 16), 0, 11, impl.ChunkResult{Size: 8}},
		{"what is known does not count", with(one(11, 16), func(c *impl.Conn) { c.Acked = 9 }), 0, 0, impl.ChunkResult{Size: 8}},
		{"all sent", one(8, 16, flight(0, "abcdefgh", 5, 1)), 0, 0, impl.ChunkResult{}},
		{"all sent, and there", sent(11, 11), 0, 0, impl.ChunkResult{}},
		{"one byte left", sent(11, 10), 0, 0, impl.ChunkResult{At: 10, Size: 1}},
		{"more sent than was written", sent(11, 40), 0, 0, impl.ChunkResult{}},
		{"the last place", sent(300, 1000000), 0, 0, impl.ChunkResult{}},
		{"nothing written", one(0, 16), 0, 0, impl.ChunkResult{}},
		{"little room", one(40, 12, flight(0, "abcdefgh", 5, 1)), 0, 0, impl.ChunkResult{At: 8, Size: 4}},
		{"no room", one(40, 8, flight(0, "abcdefgh", 5, 1)), 0, 0, impl.ChunkResult{}},
		{"less than no room", one(40, 8, manyFlights(3, 8, 0, 5, 1)...), 0, 0, impl.ChunkResult{}},
		{"12 flights", one(40, 64, manyFlights(12, 1, 0, 5, 1)...), 0, 0, impl.ChunkResult{}},
		{"11 flights", one(40, 64, manyFlights(11, 1, 0, 5, 1)...), 0, 0, impl.ChunkResult{At: 11, Size: 8}},
		{"stale flights", one(40, 64, flight(0, "abc", 5, 1000)), 0, 0, impl.ChunkResult{At: 3, Size: 8}},
		{"up to what is covered", one(40, 64, flight(6, "xyz", 5, 1)), 0, 0, impl.ChunkResult{At: 3, Size: 3}},
		{"at what is covered", one(40, 64, flight(1, "xyz", 5, 3)), 0, 0, impl.ChunkResult{}},
		{"Plain", with(one(11, 16), func(c *impl.Conn) { c.Plain = true }), 0, 0, impl.ChunkResult{Size: 8}},
		{"asked", connAt(0, pathsOf(1, asked)...), 0, 0, impl.ChunkResult{}},
		{"closed", connAt(0, pathsOf(1, closed)...), 0, 0, impl.ChunkResult{}},
		{"two paths, the first one", two, 0, 0, impl.ChunkResult{Size: 8}},
		{"two paths, the second one", two, 1, 0, impl.ChunkResult{}},
		{"the first one is closed", shut, 0, 0, impl.ChunkResult{}},
		{"the first one is closed, the second one", shut, 1, 0, impl.ChunkResult{}},
		{"i -1", two, -1, 0, impl.ChunkResult{Code: impl.ErrNone}},
		{"i one more than the last", two, 2, 0, impl.ChunkResult{Code: impl.ErrNone}},
		{"i least", two, math.MinInt64, 0, impl.ChunkResult{Code: impl.ErrNone}},
		{"i greatest", two, math.MaxInt64, 0, impl.ChunkResult{Code: impl.ErrNone}},
		{"no subs", connAt(0), 0, 0, impl.ChunkResult{Code: impl.ErrNone}},
		{"from -1", two, 0, -1, impl.ChunkResult{Code: impl.ErrRange}},
		{"from behind the end", two, 0, 41, impl.ChunkResult{Code: impl.ErrRange}},
		{"from behind the end, of a path that sends nothing", two, 1, 41, impl.ChunkResult{Code: impl.ErrRange}},
		{"from least", two, 0, math.MinInt64, impl.ChunkResult{Code: impl.ErrRange}},
		{"from greatest", two, 0, math.MaxInt64, impl.ChunkResult{Code: impl.ErrRange}},
		{"no sub, ahead of from", two, 2, -1, impl.ChunkResult{Code: impl.ErrNone}},
		{"the conn ahead of all", with(two, func(c *impl.Conn) { c.Acked = 41 }), 2, -1, impl.ChunkResult{Code: impl.ErrRange}},
		{"too much written, ahead of no sub", with(two, func(c *impl.Conn) { c.Wrote = lettersOf(301) }), 2, -1, impl.ChunkResult{Code: impl.ErrMany}},
	}
	for _, row := range rows {
		if got := impl.ChunkFor(row.c, row.i, row.from); got != row.want {
			t.Errorf("%s: ChunkFor = %+v, want %+v", row.what, got, row.want)
		}
	}
}

func TestChunkForOfFreePaths(t *testing.T) {
	free := func(first []impl.Flight, second []impl.Flight) impl.Conn {
		return sideWith(0, 30, true, carrying(1, 64, first...), carrying(2, 64, second...))
	}
	acked := func(c impl.Conn, n int64) impl.Conn { return with(c, func(c *impl.Conn) { c.Acked = n }) }
	list := func(flights ...impl.Flight) []impl.Flight { return flights }
	none := free(nil, nil)
	gap := free(list(flight(0, "abc", 5, 1)), list(flight(5, "fg", 5, 2)))
	stale := free(list(flight(0, "abcd", 5, 3)), nil)
	both := free(list(flight(0, "abcdefgh", 5, 3)), list(flight(4, "efghijkl", 5, 1)))
	end := free(list(flight(22, "wxyz1234", 5, 1)), nil)
	full := sideWith(0, 30, true, carrying(1, 64, manyFlights(12, 1, 0, 5, 1)...), carrying(2, 8, manyFlights(1, 8, 20, 5, 1)...))
	three := sideWith(0, 30, true, carrying(1, 64, flight(0, "ab", 5, 1)), carrying(2, 64, flight(2, "cd", 5, 3)), carrying(0, 64, flight(4, "ef", 5, 2)))
	shut := sideWith(0, 30, true, pathOf(1, impl.SubClosed, false), carrying(2, 64), pathOf(0, impl.SubAsked, true))
	rows := []struct {
		what string
		c    impl.Conn
		i    int64
		from int64
		want impl.ChunkResult
	}{
		{"nothing is covered", none, 0, 0, impl.ChunkResult{Size: 8}},
		{"nothing is covered, the second path", none, 1, 0, impl.ChunkResult{Size: 8}},
		{"from", none, 1, 7, impl.ChunkResult{At: 7, Size: 8}},
		{"from near the end", none, 1, 29, impl.ChunkResult{At: 29, Size: 1}},
		{"from at the end", none, 1, 30, impl.ChunkResult{}},
		{"behind what is known", acked(none, 9), 0, 0, impl.ChunkResult{At: 9, Size: 8}},
		{"from ahead of what is known", acked(none, 9), 0, 8, impl.ChunkResult{At: 9, Size: 8}},
		{"from behind what is known", acked(none, 9), 0, 10, impl.ChunkResult{At: 10, Size: 8}},
		{"all is known", acked(none, 30), 0, 0, impl.ChunkResult{}},
		{"between two that cover", gap, 0, 0, impl.ChunkResult{At: 3, Size: 2}},
		{"between two that cover, the second path", gap, 1, 0, impl.ChunkResult{At: 3, Size: 2}},
		{"from within what is covered", gap, 1, 6, impl.ChunkResult{At: 7, Size: 8}},
		{"from within the gap", gap, 1, 4, impl.ChunkResult{At: 4, Size: 1}},
		{"known within what is covered", acked(gap, 6), 0, 0, impl.ChunkResult{At: 7, Size: 8}},
		{"known ahead of what is covered", acked(gap, 4), 0, 0, impl.ChunkResult{At: 4, Size: 1}},
		{"known behind what is covered", acked(gap, 8), 0, 0, impl.ChunkResult{At: 8, Size: 8}},
		{"stale over the first path, of itself", stale, 0, 0, impl.ChunkResult{At: 4, Size: 8}},
		{"stale over the first path, of another one", stale, 1, 0, impl.ChunkResult{Size: 8}},
		{"stale, and covered by the sub itself", both, 1, 0, impl.ChunkResult{Size: 4}},
		{"stale of itself, and fresh of another one", both, 0, 0, impl.ChunkResult{At: 12, Size: 8}},
		{"up to what is covered at the end", end, 1, 15, impl.ChunkResult{At: 15, Size: 7}},
		{"all behind from is covered", end, 1, 22, impl.ChunkResult{}},
		{"all behind from is covered, within it", end, 0, 25, impl.ChunkResult{}},
		{"12 flights", full, 0, 0, impl.ChunkResult{}},
		{"no room", full, 1, 0, impl.ChunkResult{}},
		{"three paths, the first one", three, 0, 0, impl.ChunkResult{At: 2, Size: 2}},
		{"three paths, the stale one", three, 1, 0, impl.ChunkResult{At: 6, Size: 8}},
		{"three paths, the last one", three, 2, 0, impl.ChunkResult{At: 2, Size: 2}},
		{"closed", shut, 0, 0, impl.ChunkResult{}},
		{"open behind one that is closed", shut, 1, 0, impl.ChunkResult{Size: 8}},
		{"asked", shut, 2, 0, impl.ChunkResult{}},
		{"one more than the last", shut, 3, 0, impl.ChunkResult{Code: impl.ErrNone}},
		{"from behind the end", none, 0, 31, impl.ChunkResult{Code: impl.ErrRange}},
		{"from -1, of a path that is closed", shut, 0, -1, impl.ChunkResult{Code: impl.ErrRange}},
	}
	for _, row := range rows {
		if got := impl.ChunkFor(row.c, row.i, row.from); got != row.want {
			t.Errorf("%s: ChunkFor = %+v, want %+v", row.what, got, row.want)
		}
	}
}

func TestLoadSegment(t *testing.T) {
	flights := []impl.Flight{flight(4, "efg", 2, 1), flight(392, "abcdefgh", 3, 1000)}
	c := sideWith(1, 24, true, carrying(2, 16), carrying(0, 16, flights...))
	first := impl.Segment{Path: 0, From: 1, Ackd: true, Seq: 65530, Ack: 12, Opt: impl.OptMap, A: 4003, B: sumOfLoad(4, []byte("efg")), Load: []byte("efg")}
	last := impl.Segment{Path: 0, From: 1, Ackd: true, Seq: 65533, Ack: 12, Opt: impl.OptMap, A: 392003, B: sumOfLoad(392, []byte("abcdefgh")), Load: []byte("abcdefgh")}
	ended, known := last, first
	ended.End = 25
	known.A = 4004
	single := sideWith(0, 24, false, carrying(0, 16, flight(9, "xy", 2, 1)))
	plain := impl.Segment{Ackd: true, Seq: 65530, Ack: 12, Load: []byte("xy")}
	round := with(single, func(c *impl.Conn) { c.Subs[0].Send = senderWith(65535, 999998, flight(398, "xy", 2, 1)) })
	far := impl.Segment{Ackd: true, Seq: leftOf(whole(65535), whole(999998)), Ack: 12, Opt: impl.OptMap, A: 398003, B: sumOfLoad(398, []byte("xy")), Load: []byte("xy")}
	none := impl.SegmentResult{Code: impl.ErrNone}
	rows := []struct {
		what string
		c    impl.Conn
		i, k int64
		want impl.SegmentResult
	}{
		{"the first flight", c, 1, 0, impl.SegmentResult{Segment: first}},
		{"the last flight", c, 1, 1, impl.SegmentResult{Segment: last}},
		{"ended", with(c, func(c *impl.Conn) { c.Fin = true }), 1, 1, impl.SegmentResult{Segment: ended}},
		{"what came in is all", with(c, func(c *impl.Conn) { c.FinIn = 3 }), 1, 0, impl.SegmentResult{Segment: known}},
		{"Plain", with(single, func(c *impl.Conn) { c.Plain = true }), 0, 0, impl.SegmentResult{Segment: plain}},
		{"the last places", round, 0, 0, impl.SegmentResult{Segment: far}},
		{"no flights", c, 0, 0, none},
		{"k -1", c, 1, -1, none},
		{"k one more than the last", c, 1, 2, none},
		{"k greatest", c, 1, math.MaxInt64, none},
		{"k least", c, 1, math.MinInt64, none},
		{"i -1", c, -1, 0, none},
		{"i one more than the last", c, 2, 0, none},
		{"i greatest", c, math.MaxInt64, 0, none},
		{"i least", c, math.MinInt64, 0, none},
		{"no subs", connAt(0), 0, 0, none},
		{"closed", connAt(0, pathsOf(0, impl.SubClosed)...), 0, 0, none},
		{"asked", connAt(0, pathsOf(0, impl.SubAsked)...), 0, 0, none},
		{"the conn ahead of all", with(c, func(c *impl.Conn) { c.Side = 2 }), 5, 5, impl.SegmentResult{Code: impl.ErrRange}},
		{"too much written, ahead of all", with(c, func(c *impl.Conn) { c.Wrote = lettersOf(301) }), 5, 5, impl.SegmentResult{Code: impl.ErrMany}},
	}
	for _, row := range rows {
		if got := impl.LoadSegment(row.c, row.i, row.k); !sameResult(got, row.want) {
			t.Errorf("%s: LoadSegment = %+v, want %+v", row.what, got, row.want)
		}
	}
}

func TestQuietConn(t *testing.T) {
	const asked, answered, closed = impl.SubAsked, impl.SubAnswered, impl.SubClosed
	quiet := with(sideWith(0, 5, true, carrying(0, 16), carrying(1, 16)), func(c *impl.Conn) { c.Acked = 5 })
	state := func(side int64, states ...int64) impl.Conn {
		return with(sideWith(side, 5, false, pathsOf(0, states...)...), func(c *impl.Conn) { c.Acked = 5 })
	}
	rows := []struct {
		what string
		c    impl.Conn
		want bool
	}{
		{"all is known", quiet, true},
		{"one byte is not", with(quiet, func(c *impl.Conn) { c.Acked = 4 }), false},
		{"nothing is", with(quiet, func(c *impl.Conn) { c.Acked = 0 }), false},
		{"ended, and that is not known", with(quiet, func(c *impl.Conn) { c.Fin = true }), false},
		{"ended, and that is known", with(quiet, func(c *impl.Conn) { c.Fin, c.FinDone = true, true }), true},
		{"a flight over the first path", with(quiet, func(c *impl.Conn) { c.Subs[0].Send = senderWith(3, 0, flight(0, "a", 1, 1)) }), false},
		{"a flight over the second path", with(quiet, func(c *impl.Conn) { c.Subs[1].Send = senderWith(3, 9, flight(0, "a", 1, 1000)) }), false},
		{"a new conn", impl.NewConn(0, 5).Conn, true},
		{"a new conn of the side 1", impl.NewConn(1, 5).Conn, true},
		{"written alone", impl.WriteConn(impl.NewConn(0, 5).Conn, []byte("a")).Conn, false},
		{"ended alone", impl.CloseConn(impl.NewConn(0, 5).Conn).Conn, false},
		{"asked", state(0, asked), false},
		{"answered", state(1, answered), false},
		{"closed", state(0, closed), true},
		{"a join that is asked", state(0, closed, asked), false},
		{"a join that is answered", state(1, closed, answered), false},
		{"all closed", state(1, closed, closed, closed), true},
		{"what came in is not asked", with(quiet, func(c *impl.Conn) { c.In, c.FinIn = gatherWith("abc", piece(9, "x")), 40 }), true},
		{"Plain", with(state(0, closed), func(c *impl.Conn) { c.Plain = true }), true},
		{"a fault", with(quiet, func(c *impl.Conn) { c.Side = 2 }), false},
		{"the zero conn", impl.Conn{}, false},
	}
	for _, row := range rows {
		if got := impl.QuietConn(row.c); got != row.want {
			t.Errorf("%s: QuietConn = %v", row.what, got)
		}
	}
}

// placesAround are places of a list of that length, its ends, and numbers that are none.
func placesAround(count int) []int64 {
	return []int64{math.MinInt64, -1, 0, int64(count) / 2, int64(count) - 1, int64(count), int64(count) + 1, math.MaxInt64}
}

func TestStepToolsAgainstModels(t *testing.T) {
	count := map[string]int{}
	for _, c := range append(rightSteps(), wrongConns()...) {
		if got, want := impl.OrderOf(c), orderModel(c); !sameInts(got, want) {
			t.Fatalf("OrderOf(%+v) = %+v, want %+v", c, got, want)
		}
		if got, want := impl.QuietConn(c), quietModel(c); got != want {
			t.Fatalf("QuietConn(%+v) = %v", c, got)
		}
		for _, i := range placesAround(len(c.Subs)) {
			flights := 0
			if i >= 0 && i < int64(len(c.Subs)) {
				flights = len(c.Subs[i].Send.Flights)
			}
			for _, k := range placesAround(flights) {
				if got, want := impl.LoadSegment(c, i, k), loadSegmentModel(c, i, k); !sameResult(got, want) {
					t.Fatalf("LoadSegment(%+v, %d, %d) = %+v, want %+v", c, i, k, got, want)
				}
			}
			for _, from := range append(placesAround(len(c.Wrote)), 3, 5, 8, 20) {
				got, want := impl.ChunkFor(c, i, from), chunkModel(c, i, from)
				if got != want {
					t.Fatalf("ChunkFor(%+v, %d, %d) = %+v, want %+v", c, i, from, got, want)
				}
				countChunks(count, c, i, got)
			}
		}
	}
	for _, what := range []string{"a whole load", "none", "less than a load, up to what is covered", "less than a load, up to the end", "less than a load, by the room", "behind what is covered", "not Free"} {
		if count[what] < 100 {
			t.Errorf("%s came only %d times", what, count[what])
		}
	}
}

func countChunks(count map[string]int, c impl.Conn, i int64, got impl.ChunkResult) {
	add := func(what string, so bool) {
		if so {
			count[what]++
		}
	}
	if got.Code != impl.OK {
		return
	}
	end := got.At + got.Size
	some := got.Size > 0
	add("none", !some)
	add("a whole load", got.Size == 8)
	add("less than a load, up to what is covered", some && got.Size < 8 && coveredModel(c, i, end))
	add("less than a load, up to the end", some && got.Size < 8 && end == int64(len(c.Wrote)))
	add("less than a load, by the room", some && got.Size < 8 && got.Size == roomModel(c.Subs[i]).Value)
	add("behind what is covered", some && got.At > 0 && coveredModel(c, i, got.At-1))
	add("not Free", some && !c.Free)
}

// Every kind of turned conn: with each fault, the code of it, and nothing beside it.
func TestStepFaultIsAskedFirst(t *testing.T) {
	count := 0
	turnedConns(func(c impl.Conn) {
		fault := connFaultModel(c)
		if count++; count%5 != 0 || fault == impl.OK {
			return
		}
		if got := impl.StepConn(c, -1); !sameConns(got, impl.ConnResult{Code: fault}) {
			t.Fatalf("StepConn(%+v) = %+v, want the code %d", c, got, fault)
		}
		if got := impl.ChunkFor(c, -1, -1); got != (impl.ChunkResult{Code: fault}) {
			t.Fatalf("ChunkFor(%+v) = %+v, want the code %d", c, got, fault)
		}
		if got := impl.LoadSegment(c, -1, -1); !sameResult(got, impl.SegmentResult{Code: fault}) {
			t.Fatalf("LoadSegment(%+v) = %+v, want the code %d", c, got, fault)
		}
		if got := impl.OrderOf(c); !sameInts(got, impl.IntsResult{Code: fault}) || impl.QuietConn(c) {
			t.Fatalf("OrderOf(%+v) = %+v, want the code %d; quiet: %v", c, got, fault, impl.QuietConn(c))
		}
	})
}
