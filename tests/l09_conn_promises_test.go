package tests

import (
	"bytes"
	"math"
	"math/rand"
	"slices"
	"testing"

	"loop.example/g00230/impl"
)

// checkNoFault holds what was made of a conn without a fault: there is no code, and no fault.
func checkNoFault(t *testing.T, what string, got impl.ConnResult) impl.Conn {
	t.Helper()
	if got.Code != impl.OK {
		t.Fatalf("%s tells the code %d", what, got.Code)
	}
	if impl.ConnFault(got.Conn) != impl.OK || connFaultModel(got.Conn) != impl.OK {
		t.Fatalf("%s has the fault %d: %+v", what, impl.ConnFault(got.Conn), got.Conn)
	}
	return got.Conn
}

// checkStays holds that nothing but what was turned back by mend is other than it was.
func checkStays(t *testing.T, what string, was impl.Conn, is impl.Conn, mend func(c *impl.Conn)) {
	t.Helper()
	if mended := with(is, mend); !sameConn(mended, was) {
		t.Fatalf("%s turns too much of %+v: %+v", what, was, is)
	}
}

func checkWritten(t *testing.T, c impl.Conn, data []byte) impl.Conn {
	t.Helper()
	got := impl.WriteConn(c, data)
	written := checkNoFault(t, "WriteConn", got)
	if !bytes.HasPrefix(written.Wrote, c.Wrote) || !bytes.Equal(written.Wrote[len(c.Wrote):], data) {
		t.Fatalf("%q behind %q makes %q", data, c.Wrote, written.Wrote)
	}
	if len(got.Send)+len(got.Data) != 0 || got.End {
		t.Fatalf("WriteConn sends, gives or ends: %+v", got)
	}
	checkStays(t, "WriteConn", c, written, func(x *impl.Conn) { x.Wrote = c.Wrote })
	return written
}

func checkEnded(t *testing.T, c impl.Conn) impl.Conn {
	t.Helper()
	got := impl.CloseConn(c)
	ended := checkNoFault(t, "CloseConn", got)
	if !ended.Fin || len(got.Send)+len(got.Data) != 0 || got.End {
		t.Fatalf("CloseConn of %+v = %+v", c, got)
	}
	checkStays(t, "CloseConn", c, ended, func(x *impl.Conn) { x.Fin = false })
	for _, data := range [][]byte{nil, {}, []byte("x"), lettersOf(301)} {
		if again := impl.WriteConn(ended, data); !sameConns(again, impl.ConnResult{Code: impl.ErrState}) {
			t.Fatalf("behind the end %q is written: %+v", data, again)
		}
	}
	if again := impl.CloseConn(ended); !sameConns(again, impl.ConnResult{Code: impl.ErrState}) {
		t.Fatalf("ended once more: %+v", again)
	}
	return ended
}

// checkRead holds that what is given is what is done, from what was given on, and where the end is told.
func checkRead(t *testing.T, c impl.Conn, n int64) impl.ConnResult {
	t.Helper()
	got := impl.ReadConn(c, n)
	read := checkNoFault(t, "ReadConn", got)
	given := c.Given + int64(len(got.Data))
	if read.Given != given || !bytes.Equal(got.Data, c.In.Done[c.Given:given]) {
		t.Fatalf("ReadConn(%+v, %d) gives %q, Given is %d then", c, n, got.Data, read.Given)
	}
	if left := int64(len(c.In.Done)) - c.Given; int64(len(got.Data)) != min(n, left) {
		t.Fatalf("ReadConn of %d gives %d, there are %d", n, len(got.Data), left)
	}
	if got.End != (c.FinIn == given) || len(got.Send) != 0 {
		t.Fatalf("ReadConn(%+v, %d) tells the end as %v, and sends %+v", c, n, got.End, got.Send)
	}
	checkStays(t, "ReadConn", c, read, func(x *impl.Conn) { x.Given = c.Given })
	return got
}

// maySecond asks what a second path hangs on, as the promise has it.
func maySecond(c impl.Conn) bool {
	return !c.Plain && c.Peer != 0 && c.Subs[0].State == impl.SubOpen
}

// checkDialed holds all that is promised of a call; it answers the conn then, where there is no code.
func checkDialed(t *testing.T, c impl.Conn, path int64, nonce int64, now int64) (impl.Conn, bool) {
	t.Helper()
	got := impl.DialConn(c, path, nonce, now)
	join := len(c.Subs) > 0
	if c.Side == 1 || join && !maySecond(c) {
		if !sameConns(got, impl.ConnResult{Code: impl.ErrState}) {
			t.Fatalf("DialConn(%+v, %d) = %+v, want the code %d", c, path, got, impl.ErrState)
		}
		return impl.Conn{}, false
	}
	if impl.SubOn(c, path).Code == impl.OK {
		if !sameConns(got, impl.ConnResult{Code: impl.ErrTaken}) {
			t.Fatalf("DialConn(%+v, %d) = %+v, want the code %d", c, path, got, impl.ErrTaken)
		}
		return impl.Conn{}, false
	}
	dialed := checkNoFault(t, "DialConn", got)
	if len(got.Send) != 1 || len(got.Data) != 0 || got.End || len(dialed.Subs) != len(c.Subs)+1 {
		t.Fatalf("DialConn(%+v, %d) = %+v", c, path, got)
	}
	g, x := got.Send[0], dialed.Subs[len(c.Subs)]
	if impl.SegmentFault(g) != impl.OK || faultModel(g) != impl.OK || !g.Syn || g.Ackd || g.Rst || g.Path != path || g.From != c.Side || g.Ack != 0 || g.End != 0 {
		t.Fatalf("DialConn(%+v, %d) sends %+v", c, path, g)
	}
	opt, a, b := int64(impl.OptKey), c.Key, int64(0)
	if join {
		opt, a, b = impl.OptJoin, impl.TokenOf(c.Peer).Value, nonce
	}
	if g.Opt != opt || g.A != a || g.B != b {
		t.Fatalf("DialConn(%+v, %d, %d) asks by %+v", c, path, nonce, g)
	}
	start := impl.WrapNumber(impl.MixOf([]int64{c.Key, path + 2}))
	if g.Seq != start || !sameSub(x, impl.NewSub(path, start, join, nonce, now).Sub) {
		t.Fatalf("DialConn(%+v, %d, %d, %d) begins %+v, and sends %+v", c, path, nonce, now, x, g)
	}
	checkStays(t, "DialConn", c, dialed, func(x *impl.Conn) { x.Subs = x.Subs[:len(c.Subs)] })
	return dialed, true
}

// checkPaths holds that each sub is found by its path, and what is told of it.
func checkPaths(t *testing.T, c impl.Conn) {
	t.Helper()
	ack := int64(len(c.In.Done))
	if c.FinIn == ack {
		ack++
	}
	if got := impl.DataAckOf(c); got != (impl.IntResult{Value: ack}) {
		t.Fatalf("DataAckOf(%+v) = %+v, want %d", c, got, ack)
	}
	found := 0
	for _, path := range []int64{-1, 0, 1, 2, 3} {
		on, told := impl.SubOn(c, path), impl.TellSegment(c, path)
		if on.Code != impl.OK {
			if on != (impl.IntResult{Code: impl.ErrNone}) || !sameResult(told, impl.SegmentResult{Code: impl.ErrNone}) {
				t.Fatalf("of no sub on the path %d of %+v is told %+v, %+v", path, c, on, told)
			}
			continue
		}
		if found++; c.Subs[on.Value].Path != path {
			t.Fatalf("SubOn(%+v, %d) = %+v", c, path, on)
		}
		checkTold(t, c, c.Subs[on.Value], told)
	}
	if found != len(c.Subs) {
		t.Fatalf("%d subs of %+v are found by their path", found, c)
	}
}

func checkTold(t *testing.T, c impl.Conn, x impl.Sub, told impl.SegmentResult) {
	t.Helper()
	if x.State != impl.SubOpen {
		if !sameResult(told, impl.SegmentResult{Code: impl.ErrState}) {
			t.Fatalf("of %+v is told %+v", x, told)
		}
		return
	}
	want := impl.Segment{Path: x.Path, From: c.Side, Ackd: true, Seq: impl.SeqOf(x.Send, x.Send.Next).Value, Ack: impl.AckOf(x.Catch).Value}
	if c.Fin {
		want.End = int64(len(c.Wrote)) + 1
	}
	if !c.Plain {
		want.Opt, want.A = impl.OptMap, impl.DataAckOf(c).Value
	}
	if !sameResult(told, impl.SegmentResult{Segment: want}) || impl.SegmentFault(told.Segment) != impl.OK || faultModel(told.Segment) != impl.OK {
		t.Fatalf("of %+v is told %+v, want %+v", x, told, want)
	}
}

func TestPromise10EveryConn(t *testing.T) {
	for _, c := range append(rightConns(), drawnConns(300)...) {
		checkPaths(t, c)
		if c.Fin {
			for _, got := range []impl.ConnResult{impl.WriteConn(c, nil), impl.WriteConn(c, []byte("x")), impl.CloseConn(c)} {
				if !sameConns(got, impl.ConnResult{Code: impl.ErrState}) {
					t.Fatalf("%+v is turned behind its end: %+v", c, got)
				}
			}
		} else {
			checkWritten(t, c, lettersOf(impl.MaxWrote-len(c.Wrote)))
			checkWritten(t, c, nil)
			checkEnded(t, c)
		}
		for _, n := range []int64{0, 1, 3, 1000} {
			checkRead(t, c, n)
		}
		for path := range int64(3) {
			checkDialed(t, c, path, 0, 1000000)
			checkDialed(t, c, path, 1000000, 0)
		}
	}
}

func TestPromise10NewConn(t *testing.T) {
	for _, side := range []int64{0, 1} {
		for _, key := range []int64{1, 2, 77, 65536, 999998, 999999} {
			c := checkNoFault(t, "NewConn", impl.NewConn(side, key))
			if !sameConn(c, impl.Conn{Side: side, Key: key, FinIn: -1}) {
				t.Fatalf("NewConn(%d, %d) makes %+v", side, key, c)
			}
			checkPaths(t, c)
			for n := int64(0); n <= 1000; n += 250 {
				if got := checkRead(t, c, n); len(got.Data) != 0 || got.End {
					t.Fatalf("of a new conn is read %+v", got)
				}
			}
		}
	}
}

// What is written in parts is what is written at once, whatever the parts are.
func TestPromise10WrittenInParts(t *testing.T) {
	draw := rand.New(rand.NewSource(10))
	for range 60 {
		stream := make([]byte, draw.Intn(impl.MaxWrote+1))
		draw.Read(stream)
		c := impl.NewConn(draw.Int63n(2), 1+draw.Int63n(999999)).Conn
		for _, part := range cutsOf(draw, len(stream), 1+draw.Intn(60)) {
			c = checkWritten(t, c, stream[part.from:part.to])
			if !bytes.Equal(c.Wrote, stream[:part.to]) {
				t.Fatalf("%q was written, Wrote is %q", stream[:part.to], c.Wrote)
			}
			if draw.Intn(3) == 0 {
				c = checkWritten(t, c, nil)
			}
			for _, more := range []int{impl.MaxWrote - part.to + 1, impl.MaxWrote + 1} {
				if got := impl.WriteConn(c, lettersOf(more)); !sameConns(got, impl.ConnResult{Code: impl.ErrMany}) {
					t.Fatalf("%d behind %d: %+v", more, part.to, got)
				}
			}
		}
		c = checkEnded(t, c)
		if !bytes.Equal(c.Wrote, stream) {
			t.Fatalf("%q was written, Wrote is %q", stream, c.Wrote)
		}
	}
}

// What is read, put together, is what is done, while more comes in, in any order; each byte comes once, and the end where it is.
func TestPromise10ReadWhileMoreComesIn(t *testing.T) {
	draw := rand.New(rand.NewSource(101))
	for round := range 80 {
		stream := make([]byte, []int{0, 1, 5, 100, 400}[round%5])
		draw.Read(stream)
		cuts := cutsOf(draw, len(stream), 1+draw.Intn(20))
		cuts = append(cuts, cuts...)
		draw.Shuffle(len(cuts), func(i, k int) { cuts[i], cuts[k] = cuts[k], cuts[i] })
		c := impl.NewConn(draw.Int63n(2), 9).Conn
		if draw.Intn(2) == 0 {
			c.FinIn = int64(len(stream))
		}
		var all []byte
		read := func(n int64) {
			got := checkRead(t, c, n)
			all = append(all, got.Data...)
			c = got.Conn
			if !bytes.Equal(all, c.In.Done[:c.Given]) || !bytes.HasPrefix(stream, all) || c.FinIn >= 0 && got.End != (len(all) == len(stream)) {
				t.Fatalf("of %q was read %q, told the end as %v", stream, all, got.End)
			}
		}
		for _, part := range cuts {
			read([]int64{0, 1, 3, 30, 1000}[draw.Intn(5)])
			if put := impl.PutPiece(c.In, int64(part.from), stream[part.from:part.to]); put.Code == impl.OK {
				c.In = put.Gather
			}
		}
		c.In = impl.PutPiece(c.In, 0, stream).Gather
		for c.Given < int64(len(stream)) {
			read(1 + draw.Int63n(40))
		}
		c.FinIn = int64(len(stream))
		read(0)
		read(1000)
		if !bytes.Equal(all, stream) {
			t.Fatalf("of %q was read %q", stream, all)
		}
	}
}

// The end is told just where all is given: with each end, each count of bytes that are done, given and asked for.
func TestPromise10EachEnd(t *testing.T) {
	for done := range int64(7) {
		for finIn := int64(-1); finIn <= 9; finIn++ {
			for given := int64(0); given <= done; given++ {
				if finIn >= 0 && finIn < done {
					continue
				}
				c := with(connAt(1), func(c *impl.Conn) {
					c.In, c.FinIn, c.Given = impl.Gather{Done: lettersOf(int(done))}, finIn, given
				})
				ends := 0
				for n := range int64(10) {
					if checkRead(t, c, n).End {
						ends++
					}
				}
				want := 0
				if finIn == done {
					want = 10 - int(done-given)
				}
				if ends != want {
					t.Fatalf("with %d done, %d given and an end at %d, the end was told %d times, want %d", done, given, finIn, ends, want)
				}
				checkPaths(t, c)
			}
		}
	}
}

// Paths are asked for one behind the other; between them the first is opened, as by what is heard.
func TestPromise10DialOneBehindTheOther(t *testing.T) {
	dials := 0
	for _, order := range ordersOf(3) {
		for _, peer := range []int64{0, 1, 7, 999999} {
			for _, plain := range []bool{false, true} {
				for _, state := range []int64{impl.SubAsked, impl.SubOpen, impl.SubClosed} {
					c := impl.NewConn(0, 5).Conn
					c.Peer, c.Plain = peer, plain
					for i, path := range order {
						next, ok := checkDialed(t, c, int64(path), int64(i)*500000, int64(path))
						if want := i == 0 || peer != 0 && !plain && state == impl.SubOpen; ok != want {
							t.Fatalf("the path %d of %+v is asked for: %v", path, c, ok)
						}
						if !ok {
							break
						}
						dials++
						if _, again := checkDialed(t, next, int64(path), 1, 1); again {
							t.Fatalf("the path %d of %+v is asked for twice", path, next)
						}
						if i == 0 {
							next.Subs[0].State = state
						}
						c = next
						checkPaths(t, c)
					}
				}
			}
		}
	}
	if dials < 100 {
		t.Errorf("only %d paths were asked for", dials)
	}
}

// A token is of just the Peer, and another nonce asks otherwise: no two of these ask alike.
func TestPromise10JoinsAskByTheToken(t *testing.T) {
	type ask struct{ opt, a, b int64 }
	seen := map[ask]int64{}
	for peer := int64(1); peer <= 300; peer++ {
		for _, nonce := range []int64{0, 1, 1000000} {
			c := with(connAt(0, pathsOf(0, impl.SubOpen)...), func(c *impl.Conn) { c.Peer = peer })
			g := impl.DialConn(c, 1, nonce, 2).Send[0]
			if g.A != impl.TokenOf(peer).Value || g.A == peer || g.A == c.Key {
				t.Fatalf("the peer %d is asked by %+v", peer, g)
			}
			if other, there := seen[ask{g.Opt, g.A, g.B}]; there {
				t.Fatalf("the peers %d and %d are asked alike: %+v", other, peer, g)
			}
			seen[ask{g.Opt, g.A, g.B}] = peer
		}
	}
}

// A conn is used for long: written, read, dialed, told of; what it answers has never a fault, and its numbers never fall.
func TestPromise10ALongWay(t *testing.T) {
	draw := rand.New(rand.NewSource(1010))
	reads, writes, dials, ends := 0, 0, 0, 0
	for range 40 {
		c := impl.NewConn(draw.Int63n(2), 1+draw.Int63n(999999)).Conn
		if draw.Intn(3) > 0 {
			c.Peer = 1 + draw.Int63n(999999)
		}
		for now := range int64(120) {
			was := cloneConn(c)
			switch draw.Intn(12) {
			case 0, 1, 2:
				if data := lettersOf(draw.Intn(9)); !c.Fin && len(c.Wrote)+len(data) <= impl.MaxWrote {
					c = checkWritten(t, c, data)
					writes++
				}
			case 3, 4, 5:
				c = checkRead(t, c, draw.Int63n(12)).Conn
				reads++
			case 6, 7:
				if next, ok := checkDialed(t, c, draw.Int63n(3), draw.Int63n(1000001), now); ok {
					next.Subs[len(next.Subs)-1].State = impl.SubOpen
					c = next
					dials++
				}
			case 8:
				if !c.Fin && draw.Intn(8) == 0 {
					c = checkEnded(t, c)
					ends++
				}
			default:
				if done := int64(len(c.In.Done)); done+9 < impl.MaxStream {
					c.In = impl.PutPiece(c.In, done+draw.Int63n(3), lettersOf(1+draw.Intn(6))).Gather
				}
			}
			checkPaths(t, c)
			if impl.ConnFault(c) != impl.OK || !bytes.HasPrefix(c.Wrote, was.Wrote) || !bytes.HasPrefix(c.In.Done, was.In.Done) || c.Given < was.Given || was.Fin && !c.Fin || len(c.Subs) < len(was.Subs) {
				t.Fatalf("%+v became %+v", was, c)
			}
		}
	}
	if reads < 500 || writes < 300 || dials < 30 || ends < 10 {
		t.Errorf("only %d reads, %d writes, %d dials, %d ends", reads, writes, dials, ends)
	}
}

// keptConn is a conn with room behind each of its lists, and a copy of all of it.
type keptConn struct {
	c     impl.Conn
	wrote []byte
	was   []byte
	in    keptGather
	subs  []keptSub
	row   []impl.Sub
	heads []impl.Sub
}

func keepConn(c impl.Conn) keptConn {
	k := keptConn{c: c, in: keepGather(c.In)}
	k.wrote, k.c.Wrote = roomy(c.Wrote)
	k.was = slices.Clone(k.wrote)
	k.c.In = k.in.g
	for _, x := range append(slices.Clone(c.Subs), impl.Sub{Path: 71}, impl.Sub{Path: 72}) {
		kept := keepSub(x)
		k.subs = append(k.subs, kept)
		k.row = append(k.row, kept.x)
		k.heads = append(k.heads, cloneSub(kept.x))
	}
	k.c.Subs = k.row[:len(c.Subs)]
	return k
}

func (k keptConn) check(t *testing.T, what string) {
	t.Helper()
	if !bytes.Equal(k.wrote, k.was) {
		t.Fatalf("%s: Wrote is changed: %q, was %q", what, k.wrote, k.was)
	}
	k.in.check(t, what)
	for _, kept := range k.subs {
		kept.check(t, what)
	}
	if !slices.EqualFunc(k.row, k.heads, sameSub) {
		t.Fatalf("%s: Subs are changed: %+v, were %+v", what, k.row, k.heads)
	}
}

// someConns are fewer of each kind, for what asks each of them many times.
func someConns() (out []impl.Conn) {
	for i, c := range slices.Concat(rightConns(), wrongConns()) {
		if i%5 == 0 {
			out = append(out, c)
		}
	}
	return append(out, drawnConns(60)...)
}

// dataRows are what is written: with nothing, with little, and with too much.
func dataRows() [][]byte {
	return [][]byte{nil, {}, []byte("xyz"), lettersOf(300), lettersOf(301)}
}

func TestPromise1ConnsAreNotChanged(t *testing.T) {
	for _, c := range someConns() {
		k := keepConn(c)
		for _, list := range dataRows() {
			back, data := roomy(list)
			was := slices.Clone(back)
			impl.WriteConn(k.c, data)
			if !bytes.Equal(back, was) {
				t.Fatalf("data is changed: %q, was %q", back, was)
			}
		}
		for _, n := range []int64{-1, 0, 1, 2, 3, 1000, 1001} {
			impl.ReadConn(k.c, n)
			impl.DialConn(k.c, n, n, n)
			impl.SubOn(k.c, n)
			impl.TellSegment(k.c, n)
		}
		impl.ConnFault(k.c)
		impl.CloseConn(k.c)
		impl.DataAckOf(k.c)
		k.check(t, "asked")
	}
}

// spoilConns writes over all of an answer and over the room behind its lists.
func spoilConns(r impl.ConnResult) {
	spoil(r.Conn.Wrote)
	spoil(r.Data)
	spoilGather(r.Conn.In)
	subs := r.Conn.Subs[:cap(r.Conn.Subs)]
	for i := range subs {
		spoilSub(subs[i])
		subs[i] = impl.Sub{Path: -7, Nonce: -9}
	}
	sent := r.Send[:cap(r.Send)]
	for i := range sent {
		spoil(sent[i].Load)
		sent[i] = impl.Segment{Path: -7}
	}
}

// connsOf are calls that answer a conn: what changes nothing, and what changes much.
func connsOf(c impl.Conn, data []byte) map[string]func() impl.ConnResult {
	calls := map[string]func() impl.ConnResult{
		"NewConn":               func() impl.ConnResult { return impl.NewConn(c.Side, c.Key) },
		"WriteConn":             func() impl.ConnResult { return impl.WriteConn(c, data) },
		"WriteConn, of nothing": func() impl.ConnResult { return impl.WriteConn(c, nil) },
		"WriteConn, of itself":  func() impl.ConnResult { return impl.WriteConn(c, c.Wrote) },
		"CloseConn":             func() impl.ConnResult { return impl.CloseConn(c) },
		"ReadConn, of nothing":  func() impl.ConnResult { return impl.ReadConn(c, 0) },
		"ReadConn, of two":      func() impl.ConnResult { return impl.ReadConn(c, 2) },
		"ReadConn, of all":      func() impl.ConnResult { return impl.ReadConn(c, 1000) },
		"ReadConn, of wrong":    func() impl.ConnResult { return impl.ReadConn(c, 1001) },
	}
	for path, name := range []string{"DialConn of 0", "DialConn of 1", "DialConn of 2", "DialConn of 3"} {
		calls[name] = func() impl.ConnResult { return impl.DialConn(c, int64(path), 3, 2) }
	}
	return calls
}

func TestPromise1ConnsAreNewMemory(t *testing.T) {
	for _, c := range someConns() {
		k := keepConn(c)
		back, data := roomy([]byte("xyz"))
		kept := slices.Clone(back)
		for name, call := range connsOf(k.c, data) {
			got := call()
			was := cloneConns(got)
			spoilConns(got)
			k.check(t, name+" was written over")
			if !bytes.Equal(back, kept) {
				t.Fatalf("%s shares memory with data", name)
			}
			if again := call(); !sameConns(again, was) {
				t.Fatalf("%s that was written over is told again: %+v, was %+v", name, again, was)
			}
		}
	}
}

// The other way round: an answer stays as it is where an argument is written over.
func TestPromise1ConnsStayWhereArgumentsTurn(t *testing.T) {
	for _, c := range someConns() {
		for name := range connsOf(c, nil) {
			k := keepConn(c)
			back, data := roomy([]byte("xyz"))
			got := connsOf(k.c, data)[name]()
			was := cloneConns(got)
			spoil(back)
			spoilConns(impl.ConnResult{Conn: k.c})
			if !sameConns(got, was) {
				t.Fatalf("%s of %+v turns with its arguments: %+v, was %+v", name, c, got, was)
			}
		}
	}
}

// byteLists are all lists of bytes of one answer, each with the room behind it.
func byteLists(r impl.ConnResult) (out [][]byte) {
	out = append(out, r.Data, r.Conn.Wrote, r.Conn.In.Done)
	for _, p := range r.Conn.In.Pieces {
		out = append(out, p.Data)
	}
	for _, x := range r.Conn.Subs {
		for _, f := range x.Send.Flights {
			out = append(out, f.Load)
		}
	}
	for _, g := range r.Send {
		out = append(out, g.Load)
	}
	for i := range out {
		out[i] = out[i][:cap(out[i])]
	}
	return out
}

// checkListsApart holds that no two lists of one answer share memory, not even the room behind them: each is filled with a number of its own, and keeps it.
func checkListsApart(t *testing.T, what string, got impl.ConnResult) {
	t.Helper()
	lists := byteLists(got)
	for i, list := range lists {
		copy(list, bytes.Repeat([]byte{byte(i)}, len(list)))
	}
	for i, list := range lists {
		if !bytes.Equal(list, bytes.Repeat([]byte{byte(i)}, len(list))) {
			t.Fatalf("%s: the list %d of bytes shares memory with another one", what, i)
		}
	}
	for i, x := range got.Conn.Subs {
		for k := range x.Send.Flights[:cap(x.Send.Flights)] {
			x.Send.Flights[:cap(x.Send.Flights)][k] = impl.Flight{At: int64(i)}
		}
		for k := range x.Catch.Spans[:cap(x.Catch.Spans)] {
			x.Catch.Spans[:cap(x.Catch.Spans)][k] = span(int64(i), 0)
		}
	}
	for i, x := range got.Conn.Subs {
		isOther := func(f impl.Flight) bool { return f.At != int64(i) }
		if slices.ContainsFunc(x.Send.Flights, isOther) || slices.ContainsFunc(x.Catch.Spans, func(s impl.Span) bool { return s.From != int64(i) }) {
			t.Fatalf("%s: the sub %d shares memory with another one", what, i)
		}
	}
}

func TestPromise1ListsOfOneConnAreApart(t *testing.T) {
	for _, c := range append(rightConns(), drawnConns(100)...) {
		for name, call := range connsOf(c, []byte("xyz")) {
			checkListsApart(t, name, call())
		}
	}
}

func TestPromise1ConnsSameArgumentsSameAnswers(t *testing.T) {
	type answer struct {
		conns  []impl.ConnResult
		on     [5]impl.IntResult
		ack    impl.IntResult
		tells  [5]impl.SegmentResult
		faults int64
	}
	conns := someConns()
	ask := func() (out []answer) {
		for i, c := range conns {
			a := answer{ack: impl.DataAckOf(c), faults: impl.ConnFault(c)}
			for path := range a.on {
				a.on[path], a.tells[path] = impl.SubOn(c, int64(path-1)), impl.TellSegment(c, int64(path-1))
			}
			a.conns = append(a.conns, impl.NewConn(c.Side, c.Key), impl.WriteConn(c, []byte("xyz")), impl.CloseConn(c), impl.ReadConn(c, 3), impl.DialConn(c, 1, 3, 2))
			out = append(out, a)
			if i%2 == 0 {
				spoilConns(impl.WriteConn(c, []byte("xyz")))
				spoilConns(impl.ReadConn(c, 3))
				spoilConns(impl.DialConn(c, 1, 3, 2))
			}
		}
		return out
	}
	first := ask()
	for range 3 {
		slices.Reverse(conns)
		slices.Reverse(first)
		for i, a := range ask() {
			b := first[i]
			same := a.on == b.on && a.ack == b.ack && a.faults == b.faults && slices.EqualFunc(a.conns, b.conns, sameConns) && slices.EqualFunc(a.tells[:], b.tells[:], sameResult)
			if !same {
				t.Fatalf("%+v is answered as %+v once and as %+v then", conns[i], b, a)
			}
		}
	}
}

// emptied is that conn with each list that has nothing nil, or each of them empty.
func emptied(c impl.Conn, isNil bool) impl.Conn {
	c = cloneConn(c)
	if len(c.Wrote) == 0 {
		c.Wrote = emptyOr[byte](isNil)
	}
	if len(c.In.Done) == 0 {
		c.In.Done = emptyOr[byte](isNil)
	}
	if len(c.In.Pieces) == 0 {
		c.In.Pieces = emptyOr[impl.Piece](isNil)
	}
	if len(c.Subs) == 0 {
		c.Subs = emptyOr[impl.Sub](isNil)
	}
	for i := range c.Subs {
		if len(c.Subs[i].Send.Flights) == 0 {
			c.Subs[i].Send.Flights = emptyOr[impl.Flight](isNil)
		}
		if len(c.Subs[i].Catch.Spans) == 0 {
			c.Subs[i].Catch.Spans = emptyOr[impl.Span](isNil)
		}
	}
	return c
}

func emptyOr[T any](isNil bool) []T {
	if isNil {
		return nil
	}
	return []T{}
}

// nil and an empty list are the same value, wherever a list comes in.
func TestPromise1EmptyConnsAndNil(t *testing.T) {
	for _, c := range append(someConns(), impl.NewConn(0, 5).Conn, impl.NewConn(1, 5).Conn) {
		a, b := emptied(c, true), emptied(c, false)
		if impl.ConnFault(a) != impl.ConnFault(b) || impl.DataAckOf(a) != impl.DataAckOf(b) {
			t.Fatalf("%+v and %+v are told apart", a, b)
		}
		others := connsOf(b, []byte{})
		for name, call := range connsOf(a, nil) {
			if x, y := call(), others[name](); !sameConns(x, y) {
				t.Fatalf("%s of %+v tells nil and no bytes apart: %+v, %+v", name, c, x, y)
			}
		}
		for path := range int64(3) {
			if impl.SubOn(a, path) != impl.SubOn(b, path) || !sameResult(impl.TellSegment(a, path), impl.TellSegment(b, path)) {
				t.Fatalf("the path %d of %+v and %+v is told apart", path, a, b)
			}
		}
	}
}

// Every function answers at every argument, one wrong beside another, and with a code all else is zero.
func TestPromise1ConnsAnswerEverywhere(t *testing.T) {
	zero := func(c impl.Conn, got impl.ConnResult) {
		if got.Code != impl.OK && !sameConns(got, impl.ConnResult{Code: got.Code}) || got.Code == impl.OK && impl.ConnFault(got.Conn) != impl.OK {
			t.Fatalf("of %+v: %+v", c, got)
		}
	}
	told := func(c impl.Conn, n int64) {
		if on := impl.SubOn(c, n); on.Code != impl.OK && on.Value != 0 {
			t.Fatalf("SubOn(%+v, %d) = %+v", c, n, on)
		}
		if g := impl.TellSegment(c, n); g.Code != impl.OK && !sameResult(g, impl.SegmentResult{Code: g.Code}) || impl.SegmentFault(g.Segment) != impl.OK {
			t.Fatalf("TellSegment(%+v, %d) = %+v", c, n, g)
		}
	}
	count := 0
	turnedConns(func(c impl.Conn) {
		if count++; count%6 != 0 {
			return
		}
		zero(c, impl.WriteConn(c, []byte("xyz")))
		zero(c, impl.CloseConn(c))
		zero(c, impl.NewConn(c.Side, c.Key))
		for _, n := range []int64{math.MinInt64, 1, math.MaxInt64} {
			zero(c, impl.ReadConn(c, n))
			zero(c, impl.DialConn(c, n, 3, 2))
			told(c, n)
		}
		if ack := impl.DataAckOf(c); ack.Code != impl.OK && ack.Value != 0 || ack.Value < 0 || ack.Value > 401 {
			t.Fatalf("DataAckOf(%+v) = %+v", c, ack)
		}
	})
	numbers := aroundOf(0, 2, 1000, 1000000)
	for _, c := range someConns() {
		for _, list := range dataRows() {
			zero(c, impl.WriteConn(c, list))
		}
		for _, n := range numbers {
			zero(c, impl.ReadConn(c, n))
			zero(c, impl.DialConn(c, n, 3, 2))
			zero(c, impl.DialConn(c, 1, n, 2))
			zero(c, impl.DialConn(c, 1, 3, n))
			zero(c, impl.DialConn(c, n, n, n))
			told(c, n)
		}
	}
}
