package tests

import (
	"bytes"
	"math"
	"math/rand"
	"slices"
	"testing"

	"loop.example/g00230/impl"
)

// checkKept holds what promise 11 has of whatever is heard by a conn without a fault.
func checkKept(t *testing.T, c impl.Conn, g impl.Segment, now int64) impl.ConnResult {
	t.Helper()
	got := impl.HearConn(c, g, now)
	is := checkNoFault(t, "HearConn", got)
	switch {
	case is.Side != c.Side || is.Key != c.Key || is.Fin != c.Fin || is.Given != c.Given || !bytes.Equal(is.Wrote, c.Wrote):
		t.Fatalf("%+v turns what the side did itself of %+v: %+v", g, c, is)
	case !bytes.HasPrefix(is.In.Done, c.In.Done) || c.FinIn != -1 && is.FinIn != c.FinIn:
		t.Fatalf("%+v takes back what came in to %+v: %+v", g, c, is)
	case is.Acked < c.Acked || c.FinDone && !is.FinDone || c.Peer != 0 && is.Peer == 0:
		t.Fatalf("%+v takes back what was known to %+v: %+v", g, c, is)
	case c.Plain && !is.Plain || c.Free && !is.Free:
		t.Fatalf("%+v takes back how %+v goes on: %+v", g, c, is)
	case len(is.Subs) < len(c.Subs) || len(is.Subs) > len(c.Subs)+1 || len(got.Data) != 0 || got.End:
		t.Fatalf("HearConn(%+v, %+v) = %+v", c, g, got)
	}
	was, row := rowOf(c.In), rowOf(is.In)
	for place, b := range was {
		if b >= 0 && row[place] != b {
			t.Fatalf("%+v turns the byte %d of %+v: %+v", g, place, c, is)
		}
	}
	for i, x := range c.Subs {
		y := is.Subs[i]
		if y.Path != x.Path || y.Join != x.Join || y.Nonce != x.Nonce || y.Send.Start != x.Send.Start || y.Send.Acked < x.Send.Acked {
			t.Fatalf("%+v makes %+v of %+v", g, y, x)
		}
		if x.Path != g.Path && !sameSub(x, y) {
			t.Fatalf("%+v turns another path: %+v was %+v", g, y, x)
		}
		if y.State < x.State || x.State == impl.SubOpen && y.Catch.Start != x.Catch.Start {
			t.Fatalf("%+v makes %+v of %+v", g, y, x)
		}
		if y.Catch.Next < x.Catch.Next || impl.CaughtOf(y.Catch).Value < impl.CaughtOf(x.Catch).Value {
			t.Fatalf("%+v takes back what was seen by %+v: %+v", g, x, y)
		}
	}
	checkSent(t, got, g)
	return got
}

// checkSent holds that at most one segment is sent, and that it tells what the side knows then, or refuses.
func checkSent(t *testing.T, got impl.ConnResult, g impl.Segment) {
	t.Helper()
	if len(got.Send) > 1 {
		t.Fatalf("%+v makes %+v be sent", g, got.Send)
	}
	for _, sent := range got.Send {
		if impl.SegmentFault(sent) != impl.OK || faultModel(sent) != impl.OK || sent.From != got.Conn.Side || sent.Path != g.Path || len(sent.Load) != 0 {
			t.Fatalf("%+v is answered by %+v", g, sent)
		}
		refusal := impl.Segment{Path: g.Path, From: got.Conn.Side, Rst: true, Seq: g.Ack, Ack: g.Seq}
		told := []impl.SegmentResult{{Segment: refusal}, impl.TellSegment(got.Conn, g.Path), impl.AnswerSegment(got.Conn, g.Path), impl.ProveSegment(got.Conn, g.Path)}
		if !slices.ContainsFunc(told, func(r impl.SegmentResult) bool { return sameResult(r, impl.SegmentResult{Segment: sent}) }) {
			t.Fatalf("%+v is answered by %+v, which %+v does not tell", g, sent, got.Conn)
		}
	}
}

// heardPairs tells conns without a fault, each with segments that are aimed at it and with drawn ones.
func heardPairs(seed int64, every int, drawn int, tell func(c impl.Conn, g impl.Segment)) {
	count := 0
	for _, c := range hearingConns() {
		everyAimed(c, func(g impl.Segment) {
			if count++; count%every == 0 {
				tell(c, g)
			}
		})
	}
	draw := rand.New(rand.NewSource(seed))
	stray := rightSegments(500)
	for _, c := range slices.Concat(rightConns(), drawnConns(100)) {
		for range drawn {
			tell(c, drawnAimed(draw, c))
			g := stray[draw.Intn(len(stray))]
			g.From = 1 - c.Side
			tell(c, g)
		}
	}
}

func TestPromise11NothingIsTakenBack(t *testing.T) {
	times := []int64{0, 5, 999999, 1000000}
	count := 0
	heardPairs(11, 29, 12, func(c impl.Conn, g impl.Segment) {
		count++
		checkKept(t, c, g, times[count%4])
	})
	if count < 20000 {
		t.Errorf("only %d segments were heard", count)
	}
}

// The time is seen in nothing but when a path that begins is Sent.
func TestPromise11TheTime(t *testing.T) {
	heardPairs(111, 301, 2, func(c impl.Conn, g impl.Segment) {
		early, late := impl.HearConn(c, g, 0), impl.HearConn(c, g, 1000000)
		for i := len(c.Subs); i < len(late.Conn.Subs); i++ {
			if early.Conn.Subs[i].Sent != 0 || late.Conn.Subs[i].Sent != 1000000 {
				t.Fatalf("%+v begins at 0 and 10^6: %+v, %+v", g, early.Conn.Subs[i], late.Conn.Subs[i])
			}
			late.Conn.Subs[i].Sent = 0
		}
		if !sameConns(early, late) {
			t.Fatalf("HearConn(%+v, %+v) at 0 and 10^6: %+v, %+v", c, g, early, late)
		}
	})
}

// askers are the conns of the side 1 that may be joined over the path 2, of several keys.
func askers() (out []impl.Conn) {
	for _, key := range []int64{1, 5, 4242, 999999} {
		c := impl.NewConn(1, key).Conn
		c = impl.HearConn(c, impl.Segment{Syn: true, Seq: 40, Opt: impl.OptKey, A: 7}, 1).Conn
		out = append(out, c, with(connAt(1, pathsOf(0, impl.SubOpen, impl.SubOpen)...), func(c *impl.Conn) { c.Key = key }))
	}
	return out
}

func TestPromise11JoinIsTakenByJustTheToken(t *testing.T) {
	for _, c := range askers() {
		token := impl.TokenOf(c.Key).Value
		for opt := int64(impl.OptKey); opt <= impl.OptMap; opt++ {
			list := []int64{0, 1, token - 1, token, token + 1, c.Key, c.Peer, impl.TokenOf(c.Peer).Value, 999999, 1000000}
			for a := opt; a <= 1000000; a += 997 {
				list = append(list, a)
			}
			for _, a := range list {
				g := impl.Segment{Path: 2, Syn: true, Seq: 9, Ack: 8, Opt: opt, A: a, B: 3}
				got := checkKept(t, c, g, 2)
				taken := len(got.Conn.Subs) > len(c.Subs)
				if taken != (opt == impl.OptJoin && a == token) {
					t.Fatalf("a join of the key %d by %+v is taken: %v", c.Key, g, taken)
				}
				if refused := len(got.Send) == 1 && got.Send[0].Rst && sameConn(got.Conn, c); refused == taken {
					t.Fatalf("a join of the key %d by %+v: %+v", c.Key, g, got)
				}
				if taken && got.Conn.Subs[len(c.Subs)].State != impl.SubAnswered {
					t.Fatalf("a join that is taken is open: %+v", got)
				}
			}
		}
	}
}

// Every number that fits into A, for one conn: just one of them is the token.
func TestPromise11EveryToken(t *testing.T) {
	c := impl.HearConn(impl.NewConn(1, 5).Conn, impl.Segment{Syn: true, Seq: 40, Opt: impl.OptKey, A: 7}, 1).Conn
	for a := range int64(1000001) {
		got := impl.HearConn(c, impl.Segment{Path: 1, Syn: true, Opt: impl.OptJoin, A: a}, 2)
		if taken := len(got.Conn.Subs) == 2; taken != (a == mixModel(5, 1)) || got.Send[0].Rst == taken {
			t.Fatalf("a join by %d: %+v", a, got)
		}
	}
}

// askedJoin is a side 0 that asked for a join over the path 1, and answeredJoin a side 1 that answered one.
func askedJoin(key int64, peer int64, nonce int64) impl.Conn {
	c := with(connAt(0, pathsOf(0, impl.SubOpen)...), func(c *impl.Conn) { c.Key, c.Peer = key, peer })
	return impl.DialConn(c, 1, nonce, 1).Conn
}

func answeredJoin(key int64, peer int64, nonce int64) impl.Conn {
	c := with(connAt(1, pathsOf(0, impl.SubOpen)...), func(c *impl.Conn) { c.Key, c.Peer = key, peer })
	return impl.HearConn(c, impl.Segment{Path: 1, Syn: true, Seq: 9, Opt: impl.OptJoin, A: impl.TokenOf(key).Value, B: nonce}, 1).Conn
}

func TestPromise11OpenByJustTheProof(t *testing.T) {
	for _, keys := range [][3]int64{{5, 7, 3}, {7, 5, 3}, {1, 999999, 0}, {999999, 1, 1000000}, {42, 42, 42}} {
		for _, c := range []impl.Conn{askedJoin(keys[0], keys[1], keys[2]), answeredJoin(keys[0], keys[1], keys[2])} {
			x := c.Subs[1]
			good := impl.ProofOf(c.Peer, c.Key, x.Nonce).Value
			list := []int64{0, max(good-1, 0), good, good + 1, impl.ProofOf(c.Key, c.Peer, x.Nonce).Value, impl.ProofOf(c.Key, c.Peer, x.Other).Value, impl.ProofOf(c.Peer, c.Key, x.Other).Value, 999999, 1000000}
			for a := int64(1); a <= 1000000; a += 1009 {
				list = append(list, a)
			}
			for opt := int64(impl.OptNone); opt <= impl.OptMap; opt++ {
				for _, a := range list {
					g := impl.Segment{Path: 1, From: 1 - c.Side, Syn: c.Side == 0, Ackd: true, Seq: 9, Ack: x.Send.Start, Opt: opt, A: a, B: 3}
					if opt == impl.OptNone {
						g.A, g.B = 0, 0
					}
					got := checkKept(t, c, g, 2)
					open := got.Conn.Subs[1].State == impl.SubOpen
					if open != (opt == impl.OptProof && a == good) || got.Conn.Free != open {
						t.Fatalf("%+v is open by %+v: %v, Free: %v", c, g, open, got.Conn.Free)
					}
					if refused := len(got.Send) == 1 && got.Send[0].Rst; refused != (!open && c.Side == 0) {
						t.Fatalf("%+v hears %+v, and sends %+v", c, g, got.Send)
					}
				}
			}
		}
	}
}

// Every number that fits into A, for one conn at each side: just one of them is the proof.
func TestPromise11EveryProof(t *testing.T) {
	for _, c := range []impl.Conn{askedJoin(5, 7, 3), answeredJoin(5, 7, 3)} {
		x := c.Subs[1]
		c.In, c.Given, c.Wrote, c.Acked = impl.Gather{}, 0, nil, 0
		good := mixModel(7, 5, x.Nonce)
		for a := range int64(1000001) {
			g := impl.Segment{Path: 1, From: 1 - c.Side, Syn: c.Side == 0, Ackd: true, Seq: 9, Ack: x.Send.Start, Opt: impl.OptProof, A: a}
			if got := impl.HearConn(c, g, 2); (got.Conn.Subs[1].State == impl.SubOpen) != (a == good) {
				t.Fatalf("the side %d by %d: %+v", c.Side, a, got)
			}
		}
	}
}

// Two sides that know one another open a join; where a key, a nonce or the token is another one they do not.
func TestPromise11JoinOfTwoSides(t *testing.T) {
	open := func(c impl.Conn) bool { return len(c.Subs) == 2 && c.Subs[1].State == impl.SubOpen && c.Free }
	hear := func(c impl.Conn, list []impl.Segment) (impl.Conn, []impl.Segment) {
		if len(list) == 0 {
			return c, nil
		}
		got := checkKept(t, c, list[0], 5)
		return got.Conn, got.Send
	}
	for _, keys := range [][2]int64{{5, 7}, {7, 5}, {1, 1}, {999999, 1}} {
		a := impl.DialConn(impl.NewConn(0, keys[0]).Conn, 2, 3, 0)
		b := impl.HearConn(impl.NewConn(1, keys[1]).Conn, a.Send[0], 1)
		x, sent := hear(a.Conn, b.Send)
		y, _ := hear(b.Conn, sent)
		for _, wrong := range []string{"", "token", "answer", "proof", "nonce", "key"} {
			dialed := impl.DialConn(x, 0, 77, 2)
			peer := y
			if wrong == "token" {
				dialed.Send[0].A = (dialed.Send[0].A + 1) % 1000000
			}
			if wrong == "nonce" {
				dialed.Send[0].B++
			}
			if wrong == "key" {
				peer.Peer = keys[0]%999999 + 1
			}
			asked, answer := hear(peer, dialed.Send)
			if wrong == "answer" {
				answer[0].A = (answer[0].A + 1) % 1000000
			}
			asker, proof := hear(dialed.Conn, answer)
			if wrong == "proof" {
				proof[0].A = (proof[0].A + 1) % 1000000
			}
			if wrong == "" && !open(asker) {
				t.Fatalf("%v: the side that asked is %+v", keys, asker)
			}
			asked, _ = hear(asked, proof)
			if open(asked) != (wrong == "") || open(asker) != (wrong == "" || wrong == "proof") {
				t.Fatalf("%v, a wrong %s: open at the side 0 %v, at the side 1 %v", keys, wrong, open(asker), open(asked))
			}
		}
	}
}

// What is answered but not open takes nothing: no Load, no ack, no end.
func TestPromise11AnsweredTakesNothing(t *testing.T) {
	loads, opened := 0, 0
	for _, states := range [][]int64{{2}, {3, 2}, {2, 2}, {4, 2}, {3, 2, 3}, {3, 3, 2}} {
		c := connAt(1, pathsOf(0, states...)...)
		count := 0
		everyAimed(c, func(g impl.Segment) {
			k := subAt(c, g.Path)
			if count++; count%17 != 0 || k < 0 || c.Subs[k].State != impl.SubAnswered || g.Rst || g.Syn {
				return
			}
			x := c.Subs[k]
			opens := g.Ackd && (!x.Join || g.Opt == impl.OptProof && g.A == mixModel(7, 5, x.Nonce))
			got := checkKept(t, c, g, 5)
			if opens {
				opened++
				return
			}
			if !sameConns(got, impl.ConnResult{Conn: c}) {
				t.Fatalf("%+v is not open, and hears %+v: %+v", c, g, got)
			}
			if len(g.Load) > 0 {
				loads++
			}
		})
	}
	if loads < 500 || opened < 100 {
		t.Errorf("only %d loads were heard by who is not open, %d opened one", loads, opened)
	}
}

// A segment that is told twice is answered twice alike, and the second time nothing turns.
func TestPromise11ToldTwice(t *testing.T) {
	answered := 0
	heardPairs(1111, 53, 8, func(c impl.Conn, g impl.Segment) {
		once := checkKept(t, c, g, 5)
		twice := checkKept(t, once.Conn, g, 900)
		if !sameConn(once.Conn, twice.Conn) || !slices.EqualFunc(once.Send, twice.Send, sameFields) {
			t.Fatalf("%+v told twice to %+v: %+v, then %+v", g, c, once, twice)
		}
		answered += len(twice.Send)
	})
	if answered < 1000 {
		t.Errorf("only %d were answered twice", answered)
	}
}

// lesson is a stream in parts, each with an ack of its own, and the last one alone with the end.
func lesson(c impl.Conn, plain bool) (out []impl.Segment) {
	x := c.Subs[0]
	for i, text := range []string{"ab", "cde", "f", "ghijklmn", ""} {
		at := int64([]int{0, 2, 5, 6, 14}[i])
		g := impl.Segment{Path: x.Path, From: 1 - c.Side, Ackd: true, Seq: (x.Catch.Start + at) % 65536, Ack: (x.Send.Start + int64([]int{0, 3, 5, 5, 3}[i])) % 65536, Load: []byte(text)}
		if !plain {
			g.Opt, g.A = impl.OptMap, 1000*at+int64([]int{0, 4, 5, 6, 3}[i])
			g.B = sumOfLoad(at, g.Load)
		}
		if i == 4 {
			g.End = 15
		}
		out = append(out, g)
	}
	return out
}

// In whatever order segments are told, and however often, the same is known in the end.
func TestPromise11EveryOrder(t *testing.T) {
	for _, side := range []int64{0, 1} {
		for _, plain := range []bool{false, true} {
			x := subIn(impl.SubOpen, senderWith(65534, 0, flight(0, "hel", 1, 1), flight(3, "lo", 1, 1)))
			x.Join, x.Catch = false, catchWith(65530, 0)
			c := impl.Conn{Side: side, Key: 5, Peer: 7, Wrote: []byte("hello"), Fin: true, FinIn: -1, Subs: []impl.Sub{x}}
			told := lesson(c, plain)
			for _, order := range ordersOf(len(told)) {
				is := c
				for _, again := range []bool{false, true} {
					for _, i := range order {
						is = checkKept(t, is, told[i], 5).Conn
						if again {
							is = checkKept(t, is, told[4-i], 6).Conn
						}
					}
					y := is.Subs[0]
					right := string(is.In.Done) == "abcdefghijklmn" && len(is.In.Pieces) == 0 && is.FinIn == 14 && is.Plain == plain && is.Acked == 5 && is.FinDone == !plain &&
						sameCatch(y.Catch, catchWith(65530, 14)) && y.Send.Acked == 5 && len(y.Send.Flights) == 0 && y.Control.Window == 21
					if !right {
						t.Fatalf("plain %v, in the order %v: %+v", plain, order, is)
					}
				}
			}
		}
	}
}

// An end that is told early keeps out just what lies behind it, in whatever order.
func TestPromise11EndsInEveryOrder(t *testing.T) {
	x := subIn(impl.SubOpen, impl.Sender{})
	x.Join, x.Catch = false, catchWith(9, 0)
	c := impl.Conn{Side: 1, Key: 5, Peer: 7, FinIn: -1, Subs: []impl.Sub{x}}
	part := func(at int64, text string, end int64) impl.Segment {
		return impl.Segment{Path: 1, Seq: 9 + at, End: end, Opt: impl.OptMap, A: 1000 * at, B: sumOfLoad(at, []byte(text)), Load: []byte(text)}
	}
	told := []impl.Segment{part(0, "ab", 5), part(2, "cd", 0), part(4, "xy", 0), part(0, "", 9)}
	for _, order := range ordersOf(len(told)) {
		is := c
		for _, i := range order {
			is = checkKept(t, is, told[i], 5).Conn
		}
		want, end := "abcd", int64(4)
		first := slices.Index(order, 0)
		if long, late := slices.Index(order, 2), slices.Index(order, 3); late < first || long < first {
			want, end = "abcdxy", 8
		}
		if string(is.In.Done) != want || is.FinIn != end {
			t.Fatalf("in the order %v: %q, the end at %d", order, is.In.Done, is.FinIn)
		}
	}
}

// How many options vanish on their way.
const (
	stripsNone = iota
	stripsSome
	stripsAll
)

// talk is two sides and what they sent one another, over so many paths at most.
type talk struct {
	sides  [2]impl.Conn
	bag    []impl.Segment
	now    int64
	paths  int
	strips int
}

// push sends the bytes at that place over a path: of what is not Free the first one alone, from what it sent last on.
func (w *talk) push(t *testing.T, draw *rand.Rand, side int64) {
	t.Helper()
	c := &w.sides[side]
	if len(c.Subs) == 0 {
		return
	}
	x := &c.Subs[0]
	at := x.Send.Next
	if c.Free {
		x = &c.Subs[draw.Intn(len(c.Subs))]
		at = draw.Int63n(int64(len(c.Wrote)) + 1)
	}
	if x.State != impl.SubOpen || at >= int64(len(c.Wrote)) || len(x.Send.Flights) == impl.MaxFlights {
		return
	}
	load := c.Wrote[at:min(at+1+draw.Int63n(impl.MaxLoad), int64(len(c.Wrote)))]
	pushed := impl.PushFlight(x.Send, at, load, w.now)
	if pushed.Code != impl.OK {
		t.Fatalf("PushFlight = %+v", pushed)
	}
	x.Send = pushed.Sender
	w.send(c, *x, len(x.Send.Flights)-1)
}

func (w *talk) send(c *impl.Conn, x impl.Sub, k int) {
	f := x.Send.Flights[k]
	g := impl.TellSegment(*c, x.Path).Segment
	g.Seq, g.Load = impl.SeqOf(x.Send, f.At).Value, f.Load
	if !c.Plain {
		g.A, g.B = 1000*f.Data+g.A, impl.SumLoad(f.Data, f.Load)
	}
	w.bag = append(w.bag, g)
}

// again sends what is on its way once more, and asks and answers anew, and tells of the paths that are open.
func (w *talk) again(side int64) {
	c := &w.sides[side]
	for _, x := range c.Subs {
		switch x.State {
		case impl.SubAsked:
			g := impl.Segment{Path: x.Path, Syn: true, Seq: x.Send.Start, Opt: impl.OptKey, A: c.Key}
			if x.Join {
				g.Opt, g.A, g.B = impl.OptJoin, impl.TokenOf(c.Peer).Value, x.Nonce
			}
			w.bag = append(w.bag, g)
		case impl.SubAnswered:
			w.bag = append(w.bag, impl.AnswerSegment(*c, x.Path).Segment)
		case impl.SubOpen:
			for k := range x.Send.Flights {
				w.send(c, x, k)
			}
			g := impl.TellSegment(*c, x.Path).Segment
			g.Ackd = false
			w.bag = append(w.bag, g)
		}
	}
}

func (w *talk) deliver(t *testing.T, i int, keep bool) {
	t.Helper()
	g := w.bag[i]
	if w.strips == stripsAll {
		g = impl.StripSegment(g)
	}
	if !keep {
		w.bag = slices.Delete(w.bag, i, i+1)
	}
	side := 1 - g.From
	got := checkKept(t, w.sides[side], g, w.now)
	w.sides[side] = got.Conn
	w.bag = append(w.bag, got.Send...)
}

// check holds that what is in is what was written, and that a side knows no more than that.
func (w *talk) check(t *testing.T) {
	t.Helper()
	for side := range w.sides {
		me, other := w.sides[side], w.sides[1-side]
		if !impl.FitsStream(me.In, other.Wrote) || me.FinIn != -1 && (!other.Fin || me.FinIn != int64(len(other.Wrote))) {
			t.Fatalf("%q with the end %d came in of %q", me.In.Done, me.FinIn, other.Wrote)
		}
		if me.Acked > int64(len(other.In.Done)) || me.FinDone && other.FinIn == -1 {
			t.Fatalf("%d are known to be there, of %q, the end: %v", me.Acked, other.In.Done, me.FinDone)
		}
	}
}

func (w *talk) step(t *testing.T, draw *rand.Rand) {
	t.Helper()
	w.now++
	side := draw.Int63n(2)
	c := &w.sides[side]
	switch n := draw.Intn(20); {
	case n == 0 && len(w.sides[0].Subs) < w.paths:
		if got := impl.DialConn(w.sides[0], draw.Int63n(3), draw.Int63n(1000001), w.now); got.Code == impl.OK {
			w.sides[0], w.bag = got.Conn, append(w.bag, got.Send...)
		}
	case n == 1:
		if got := impl.WriteConn(*c, lettersOf(draw.Intn(30))); got.Code == impl.OK {
			*c = got.Conn
		}
	case n == 2 && draw.Intn(8) == 0:
		if got := impl.CloseConn(*c); got.Code == impl.OK {
			*c = got.Conn
		}
	case n <= 5:
		w.push(t, draw, side)
	case n == 6:
		w.again(side)
	case len(w.bag) == 0:
	case n == 7 && len(w.bag) > 30:
		w.bag = slices.Delete(w.bag, 0, draw.Intn(20))
	case n == 8 && w.strips == stripsSome:
		i := draw.Intn(len(w.bag))
		w.bag[i] = impl.StripSegment(w.bag[i])
	default:
		w.deliver(t, draw.Intn(len(w.bag)), draw.Intn(5) == 0)
	}
	w.check(t)
}

// settle tells all that is on its way and all that it makes be sent, again and again, with nothing lost.
func (w *talk) settle(t *testing.T, draw *rand.Rand) {
	t.Helper()
	for range 60 {
		for side := range int64(2) {
			for range 8 {
				w.push(t, draw, side)
			}
			w.again(side)
		}
		for len(w.bag) > 0 {
			w.deliver(t, 0, false)
		}
		w.check(t)
	}
}

// Two sides talk for long, with segments late, twice, lost and in any order: what is in is always what was written.
func TestPromise11TwoSidesTalk(t *testing.T) {
	draw := rand.New(rand.NewSource(2911))
	count := map[string]int{}
	for round := range 160 {
		w := talk{paths: 1 + round/4%3, strips: round % 4 % 3}
		w.sides = [2]impl.Conn{impl.NewConn(0, 1+draw.Int63n(999999)).Conn, impl.NewConn(1, 1+draw.Int63n(999999)).Conn}
		for range 250 {
			w.step(t, draw)
		}
		if w.strips != stripsSome {
			w.settle(t, draw)
		}
		for side, c := range w.sides {
			other := w.sides[1-side]
			whole := len(c.In.Done) == len(other.Wrote) && (!other.Fin || c.FinIn == int64(len(other.Wrote)))
			if w.strips != stripsSome && len(c.Subs) > 0 && !other.Free && !whole {
				t.Fatalf("nothing is lost any more, and of %q came in %q, the end at %d", other.Wrote, c.In.Done, c.FinIn)
			}
			countTalk(count, c, whole)
		}
	}
	for _, what := range []string{"free", "plain", "ended", "whole", "closed"} {
		if count[what] < 30 {
			t.Errorf("%s came only %d times", what, count[what])
		}
	}
	if count["bytes"] < 5000 {
		t.Errorf("only %d bytes came in", count["bytes"])
	}
}

func countTalk(count map[string]int, c impl.Conn, whole bool) {
	add := func(what string, so bool) {
		if so {
			count[what]++
		}
	}
	add("free", c.Free)
	add("plain", c.Plain)
	add("ended", c.FinIn != -1)
	add("whole", whole && len(c.In.Done) > 0)
	for _, x := range c.Subs {
		add("closed", x.State == impl.SubClosed)
	}
	count["bytes"] += len(c.In.Done)
}

// hearingsOf are calls that answer what is heard of a segment.
func hearingsOf(c impl.Conn, g impl.Segment) map[string]func() impl.ConnResult {
	return map[string]func() impl.ConnResult{
		"HearConn":                func() impl.ConnResult { return impl.HearConn(c, g, 5) },
		"HearConn at a wrong now": func() impl.ConnResult { return impl.HearConn(c, g, -1) },
	}
}

// somePairs are conns of all kinds, each with a few segments: aimed at it, where it has no fault, and wrong ones.
func somePairs(tell func(c impl.Conn, g impl.Segment)) {
	draw := rand.New(rand.NewSource(1))
	stray := manySegments()
	for _, c := range slices.Concat(someConns(), hearingConns()) {
		for range 3 {
			tell(c, stray[draw.Intn(len(stray))])
		}
		if connFaultModel(c) != impl.OK {
			continue
		}
		for range 8 {
			tell(c, drawnAimed(draw, c))
		}
	}
}

// tellsOf asks the other functions of the chapter.
func tellsOf(c impl.Conn, g impl.Segment, path int64) (impl.SegmentResult, impl.SegmentResult, impl.IntsResult, impl.IntResult) {
	return impl.AnswerSegment(c, path), impl.ProveSegment(c, path), impl.OthersOf(c, path), impl.WhereData(c, g)
}

func TestPromise1HearingChangesNothing(t *testing.T) {
	somePairs(func(c impl.Conn, g impl.Segment) {
		k := keepConn(c)
		back, load := roomy(g.Load)
		was := slices.Clone(back)
		g.Load = load
		for _, call := range hearingsOf(k.c, g) {
			call()
		}
		for path := int64(-1); path <= 3; path++ {
			tellsOf(k.c, g, path)
		}
		k.check(t, "heard")
		if !bytes.Equal(back, was) {
			t.Fatalf("the Load is changed: %q, was %q", back, was)
		}
	})
}

func TestPromise1HeardIsNewMemory(t *testing.T) {
	somePairs(func(c impl.Conn, g impl.Segment) {
		k := keepConn(c)
		back, load := roomy(g.Load)
		kept := slices.Clone(back)
		g.Load = load
		for name, call := range hearingsOf(k.c, g) {
			got := call()
			was := cloneConns(got)
			spoilConns(got)
			k.check(t, name+" was written over")
			if !bytes.Equal(back, kept) {
				t.Fatalf("%s shares memory with the Load", name)
			}
			if again := call(); !sameConns(again, was) {
				t.Fatalf("%s that was written over is told again: %+v, was %+v", name, again, was)
			}
		}
		others := impl.OthersOf(k.c, 1)
		was := slices.Clone(others.List)
		for i := range others.List[:cap(others.List)] {
			others.List[:cap(others.List)][i] = -7
		}
		k.check(t, "OthersOf was written over")
		if again := impl.OthersOf(k.c, 1); !slices.Equal(again.List, was) {
			t.Fatalf("OthersOf that was written over is told again: %+v, was %v", again, was)
		}
	})
}

// The other way round: an answer stays as it is where an argument is written over.
func TestPromise1HeardStaysWhereArgumentsTurn(t *testing.T) {
	somePairs(func(c impl.Conn, g impl.Segment) {
		for name := range hearingsOf(c, g) {
			k := keepConn(c)
			back, load := roomy(g.Load)
			turned := g
			turned.Load = load
			got := hearingsOf(k.c, turned)[name]()
			was := cloneConns(got)
			spoil(back)
			spoilConns(impl.ConnResult{Conn: k.c})
			if !sameConns(got, was) {
				t.Fatalf("%s of %+v turns with its arguments: %+v, was %+v", name, c, got, was)
			}
		}
	})
}

func TestPromise1ListsOfWhatIsHeardAreApart(t *testing.T) {
	somePairs(func(c impl.Conn, g impl.Segment) {
		checkListsApart(t, "HearConn", impl.HearConn(c, g, 5))
	})
}

func TestPromise1HearingSameArgumentsSameAnswers(t *testing.T) {
	type pair struct {
		c impl.Conn
		g impl.Segment
	}
	var pairs []pair
	somePairs(func(c impl.Conn, g impl.Segment) { pairs = append(pairs, pair{c, g}) })
	var first []impl.ConnResult
	for i, p := range pairs {
		first = append(first, impl.HearConn(p.c, p.g, 5))
		if i%2 == 0 {
			spoilConns(impl.HearConn(p.c, p.g, 5))
		}
	}
	for i := len(pairs) - 1; i >= 0; i-- {
		p := pairs[i]
		if again := impl.HearConn(p.c, p.g, 5); !sameConns(again, first[i]) {
			t.Fatalf("HearConn(%+v, %+v) = %+v, then %+v", p.c, p.g, first[i], again)
		}
		for path := int64(-1); path <= 3; path++ {
			a, b, o, w := tellsOf(p.c, p.g, path)
			x, y, q, v := tellsOf(p.c, p.g, path)
			if !sameResult(a, x) || !sameResult(b, y) || !sameInts(o, q) || w != v {
				t.Fatalf("of %+v and the path %d is told %+v, %+v, %+v, %+v, then otherwise", p.c, path, a, b, o, w)
			}
		}
	}
}

// nil and an empty list are the same value, wherever a list comes in.
func TestPromise1HearingEmptyAndNil(t *testing.T) {
	somePairs(func(c impl.Conn, g impl.Segment) {
		a, b := emptied(c, true), emptied(c, false)
		bare, none := g, g
		if len(g.Load) == 0 {
			bare.Load, none.Load = nil, []byte{}
		}
		if x, y := impl.HearConn(a, bare, 5), impl.HearConn(b, none, 5); !sameConns(x, y) {
			t.Fatalf("HearConn of %+v and %+v tells nil and no bytes apart: %+v, %+v", c, g, x, y)
		}
		for path := range int64(3) {
			p, q, r, s := tellsOf(a, bare, path)
			v, w, x, y := tellsOf(b, none, path)
			if !sameResult(p, v) || !sameResult(q, w) || !sameInts(r, x) || s != y {
				t.Fatalf("the path %d of %+v and %+v is told apart", path, a, b)
			}
		}
	})
}

// Every function answers at every argument, one wrong beside another, and with a code all else is zero.
func TestPromise1HearingAnswersEverywhere(t *testing.T) {
	check := func(c impl.Conn, g impl.Segment, n int64) {
		got := impl.HearConn(c, g, n)
		if got.Code != impl.OK && !sameConns(got, impl.ConnResult{Code: got.Code}) || got.Code == impl.OK && impl.ConnFault(got.Conn) != impl.OK {
			t.Fatalf("HearConn(%+v, %+v, %d) = %+v", c, g, n, got)
		}
		answer, proof, others, where := tellsOf(c, g, n)
		for _, told := range []impl.SegmentResult{answer, proof} {
			if told.Code != impl.OK && !sameResult(told, impl.SegmentResult{Code: told.Code}) || impl.SegmentFault(told.Segment) != impl.OK {
				t.Fatalf("of the path %d of %+v is told %+v", n, c, told)
			}
		}
		if others.Code != impl.OK && len(others.List) != 0 || len(others.List) > 3 {
			t.Fatalf("OthersOf(%+v, %d) = %+v", c, n, others)
		}
		if where.Code != impl.OK && where.Value != 0 || where.Value < 0 {
			t.Fatalf("WhereData(%+v, %+v) = %+v", c, g, where)
		}
	}
	segments := manySegments()
	numbers := []int64{math.MinInt64, -1, 0, 1, 2, 3, 1000000, 1000001, math.MaxInt64}
	count := 0
	turnedConns(func(c impl.Conn) {
		if count++; count%7 == 0 {
			check(c, segments[count%len(segments)], numbers[count/7%len(numbers)])
		}
	})
	for i, c := range someConns() {
		for k, n := range numbers {
			check(c, segments[(i*len(numbers)+k)*31%len(segments)], n)
			check(c, impl.Segment{Path: int64(k % 3), From: int64(i % 2), Ackd: true, Load: []byte("x")}, n)
		}
	}
}
