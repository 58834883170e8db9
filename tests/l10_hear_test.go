package tests

import (
	"bytes"
	"math"
	"math/rand"
	"slices"
	"testing"

	"loop.example/g00230/impl"
)

// subAt is the place of the sub of that path, or -1; only for conns without a fault.
func subAt(c impl.Conn, path int64) int {
	return slices.IndexFunc(c.Subs, func(x impl.Sub) bool { return x.Path == path })
}

func refusalModel(c impl.Conn, g impl.Segment) []impl.Segment {
	return []impl.Segment{{Path: g.Path, From: c.Side, Rst: true, Seq: g.Ack, Ack: g.Seq}}
}

func answerModel(c impl.Conn, path int64) impl.SegmentResult {
	on := subOnModel(c, path)
	if on.Code != impl.OK {
		return impl.SegmentResult{Code: on.Code}
	}
	x := c.Subs[on.Value]
	g := impl.Segment{Path: path, From: c.Side, Syn: true, Ackd: true, Seq: x.Send.Start, Ack: x.Catch.Start}
	switch {
	case x.Join:
		g.Opt, g.A, g.B = 3, mixModel(c.Key, c.Peer, x.Other), x.Nonce
	case !c.Plain:
		g.Opt, g.A = 1, c.Key
	}
	return impl.SegmentResult{Segment: g}
}

// proveModel opens the sub for what tellModel asks.
func proveModel(c impl.Conn, path int64) impl.SegmentResult {
	on := subOnModel(c, path)
	if on.Code != impl.OK {
		return impl.SegmentResult{Code: on.Code}
	}
	opened := cloneConn(c)
	x := &opened.Subs[on.Value]
	if !x.Join {
		return impl.SegmentResult{Code: impl.ErrForm}
	}
	x.State = 3
	told := tellModel(opened, path)
	told.Segment.Opt, told.Segment.A, told.Segment.B = 3, mixModel(c.Key, c.Peer, x.Other), 0
	return told
}

func whereModel(c impl.Conn, g impl.Segment) impl.IntResult {
	code := connFaultModel(c)
	if code == impl.OK {
		code = faultModel(g)
	}
	if code != impl.OK {
		return impl.IntResult{Code: code}
	}
	k := subAt(c, g.Path)
	if k < 0 {
		return impl.IntResult{Code: impl.ErrNone}
	}
	place := placeModel(c.Subs[k].Catch, g.Seq)
	switch {
	case place.Code != impl.OK:
		return impl.IntResult{Code: impl.ErrNone}
	case c.Plain:
		return place
	case g.Opt == 4 && sumOfLoad(g.A/1000, g.Load) != g.B:
		return impl.IntResult{Code: impl.ErrSum}
	case g.Opt == 4:
		return impl.IntResult{Value: g.A / 1000}
	case len(c.Subs) != 1:
		return impl.IntResult{Code: impl.ErrState}
	}
	return place
}

// sumOfLoad is only for places and loads that fit into two bytes.
func sumOfLoad(at int64, load []byte) int64 {
	return sumModel(append([]byte{byte(at / 256), byte(at % 256), 0, byte(len(load))}, load...))
}

func othersModel(c impl.Conn, path int64) impl.IntsResult {
	if fault := connFaultModel(c); fault != impl.OK {
		return impl.IntsResult{Code: fault}
	}
	var out impl.IntsResult
	for _, x := range c.Subs {
		if x.Path == path || x.State != 3 {
			continue
		}
		out.List = append(out.List, x.Control.Window)
	}
	return out
}

// hearModel goes through the chapter sentence by sentence.
func hearModel(c impl.Conn, g impl.Segment, now int64) impl.ConnResult {
	code := connFaultModel(c)
	if code == impl.OK {
		code = faultModel(g)
	}
	switch {
	case code != impl.OK:
	case g.From == c.Side:
		code = impl.ErrForm
	case now < 0, now > 1000000:
		code = impl.ErrRange
	}
	if code != impl.OK {
		return impl.ConnResult{Code: code}
	}
	out := impl.ConnResult{Conn: cloneConn(c)}
	switch k := subAt(c, g.Path); {
	case g.Rst && k >= 0:
		out.Conn.Subs[k] = closeModel(c.Subs[k]).Sub
	case g.Rst:
	case g.Syn && !g.Ackd && c.Side == 1:
		hearSynModel(&out, g, now, k)
	case g.Syn && g.Ackd && c.Side == 0:
		hearSynAckModel(&out, g, k)
	case g.Syn:
	default:
		hearElseModel(&out, g, k)
	}
	return out
}

func peerModel(c *impl.Conn, g impl.Segment) {
	if g.Opt == 1 && isKey(g.A) {
		c.Peer = g.A
		return
	}
	c.Plain = true
}

func hearSynModel(out *impl.ConnResult, g impl.Segment, now int64, k int) {
	c := &out.Conn
	fresh := impl.Sub{
		Path: g.Path, State: 2, Sent: now, Send: impl.Sender{Start: mixModel(c.Key, 2+g.Path) % 65536},
		Catch: impl.Catch{Start: g.Seq}, Control: impl.Control{Window: 16, Bound: 64},
	}
	switch {
	case len(c.Subs) == 0:
		peerModel(c, g)
		c.Subs = []impl.Sub{fresh}
	case k < 0 && (c.Plain || c.Peer == 0 || g.Opt != 2 || g.A != mixModel(c.Key, 1)):
		out.Send = refusalModel(*c, g)
		return
	case k < 0:
		fresh.Join, fresh.Other, fresh.Nonce = true, g.B, mixModel(c.Key, g.B)
		c.Subs = append(c.Subs, fresh)
	case c.Subs[k].State == 4:
		out.Send = refusalModel(*c, g)
		return
	case c.Subs[k].Catch.Start != g.Seq:
		return
	}
	out.Send = []impl.Segment{answerModel(*c, g.Path).Segment}
}

func hearSynAckModel(out *impl.ConnResult, g impl.Segment, k int) {
	c := &out.Conn
	if k < 0 || c.Subs[k].State == 4 {
		out.Send = refusalModel(*c, g)
		return
	}
	x := &c.Subs[k]
	switch {
	case x.State == 1 && g.Ack != x.Send.Start:
	case x.State == 1 && !x.Join:
		x.State, x.Catch.Start = 3, g.Seq
		peerModel(c, g)
		out.Send = []impl.Segment{tellModel(*c, g.Path).Segment}
	case x.State == 1 && g.Opt == 3 && g.A == mixModel(c.Peer, c.Key, x.Nonce):
		x.State, x.Catch.Start, x.Other, c.Free = 3, g.Seq, g.B, true
		out.Send = []impl.Segment{proveModel(*c, g.Path).Segment}
	case x.State == 1:
		*x = closeModel(*x).Sub
		out.Send = refusalModel(*c, g)
	case x.Catch.Start != g.Seq:
	case x.Join:
		out.Send = []impl.Segment{proveModel(*c, g.Path).Segment}
	default:
		out.Send = []impl.Segment{tellModel(*c, g.Path).Segment}
	}
}

func hearElseModel(out *impl.ConnResult, g impl.Segment, k int) {
	c := &out.Conn
	if k < 0 || c.Subs[k].State == 4 {
		out.Send = refusalModel(*c, g)
		return
	}
	x := &c.Subs[k]
	if x.State == 1 || x.State == 2 && !g.Ackd {
		return
	}
	if x.State == 2 {
		if x.Join && (g.Opt != 3 || g.A != mixModel(c.Peer, c.Key, x.Nonce)) {
			return
		}
		x.State, c.Free = 3, c.Free || x.Join
	}
	if g.Ackd {
		if acked := ackSubModel(*x, g.Ack, othersModel(*c, g.Path).List); acked.Code == impl.OK {
			*x = acked.Sub
		}
		knownModel(c, g, k)
	}
	if len(g.Load) > 0 {
		where := whereModel(*c, g)
		if where.Code == impl.ErrSum || where.Code == impl.ErrState {
			*x = closeModel(*x).Sub
			out.Send = refusalModel(*c, g)
			return
		}
		if where.Code == impl.OK {
			loadModel(c, g, k, where.Value)
		}
	}
	endModel(c, g)
	if len(g.Load) > 0 || g.End != 0 && !g.Ackd {
		out.Send = []impl.Segment{tellModel(*c, g.Path).Segment}
	}
}

func knownModel(c *impl.Conn, g impl.Segment, k int) {
	wrote := int64(len(c.Wrote))
	if g.Opt == 4 && !c.Plain {
		switch d := g.A % 1000; {
		case d == wrote+1 && c.Fin:
			c.Acked, c.FinDone = wrote, true
		case d > c.Acked && d <= wrote:
			c.Acked = d
		}
		return
	}
	if known := min(c.Subs[k].Send.Acked, wrote); k == 0 && !c.Free && known > c.Acked {
		c.Acked = known
	}
}

func loadModel(c *impl.Conn, g impl.Segment, k int, at int64) {
	x := &c.Subs[k]
	if g.Opt != 4 {
		c.Plain = true
	}
	put := putModel(c.In, at, g.Load)
	seen := takeModel(x.Catch, placeModel(x.Catch, g.Seq).Value, int64(len(g.Load)))
	switch {
	case put.Code != impl.OK, seen.Code != impl.OK, seen.Catch.Next > 1000000:
	case c.FinIn >= 0 && at+int64(len(g.Load)) > c.FinIn:
	default:
		c.In, x.Catch = put.Gather, seen.Catch
	}
}

func endModel(c *impl.Conn, g impl.Segment) {
	if g.End == 0 || g.End > 401 || c.FinIn != -1 {
		return
	}
	row := rowOf(c.In)
	for place := g.End - 1; place < 400; place++ {
		if row.has(place) {
			return
		}
	}
	c.FinIn = g.End - 1
}

// option is what a segment tells beside its numbers; where sum is set, B becomes the right sum of its Load.
type option struct {
	opt, a, b int64
	sum       bool
}

// aim has, for one path of a conn, values at and beside what the chapter asks of a segment.
type aim struct {
	seqs, acks, ends []int64
	opts             []option
	loads            [][]byte
}

func wrapped(list ...int64) (out []int64) {
	for _, n := range list {
		out = append(out, leftOf(whole(n)))
	}
	return out
}

// aimAt is only for conns without a fault.
func aimAt(c impl.Conn, path int64) aim {
	a := aim{seqs: []int64{0, 9, 65535}, acks: []int64{0, 9, 65535}, loads: [][]byte{[]byte("hi"), nil, {}, {0}, lettersOf(8)}}
	var x impl.Sub
	if k := subAt(c, path); k >= 0 {
		x = c.Subs[k]
		start, next := x.Catch.Start, x.Catch.Start+x.Catch.Next
		a.seqs = append(wrapped(next, start, start-1, start+1, next-1, next-3, next+1, next+4, next+6, next+32767, next+32768, next+32769, next-40), a.seqs...)
		for _, s := range x.Catch.Spans {
			a.seqs = append(a.seqs, wrapped(start+s.From-1, start+s.To-1)...)
		}
		first, last := x.Send.Start+x.Send.Acked, x.Send.Start+x.Send.Next
		a.acks = append(wrapped(first, x.Send.Start, x.Send.Start+1, x.Send.Start-1, first-1, first+1, last, last-1, last+1, last+32768), a.acks...)
		for _, f := range x.Send.Flights {
			a.acks = append(a.acks, wrapped(x.Send.Start+flightEndOf(f))...)
		}
	}
	reach := int64(0)
	for place, b := range rowOf(c.In) {
		if b >= 0 {
			reach = int64(place) + 1
		}
	}
	for _, n := range []int64{0, 1, 2, reach, reach + 1, reach + 2, int64(len(c.In.Done)), c.FinIn, c.FinIn + 1, c.FinIn + 2, 400, 401, 402, 1000} {
		if n >= 0 {
			a.ends = append(a.ends, n)
		}
	}
	a.opts = optionsFor(c, x, reach)
	return a
}

func optionsFor(c impl.Conn, x impl.Sub, reach int64) []option {
	done, wrote := int64(len(c.In.Done)), int64(len(c.Wrote))
	out := []option{{4, 1000*done + c.Acked, 0, true}, {}}
	for _, a := range []int64{0, 1, 7, 999999, 1000000, c.Key, c.Peer} {
		out = append(out, option{1, a, 0, false}, option{1, a, 5, false})
	}
	token, proof := mixModel(c.Key, 1), mixModel(c.Peer, c.Key, x.Nonce)
	for _, b := range []int64{0, 77, 1000000} {
		out = append(out, option{2, token, b, false}, option{3, proof, b, false})
	}
	for _, a := range []int64{token - 1, token + 1, mixModel(c.Peer, 1), c.Key, proof} {
		out = append(out, option{2, max(a, 0), 3, false})
	}
	for _, a := range []int64{proof - 1, proof + 1, mixModel(c.Key, c.Peer, x.Nonce), mixModel(c.Key, c.Peer, x.Other), mixModel(c.Peer, c.Key, x.Other), token, 0} {
		out = append(out, option{3, max(a, 0), 3, false})
	}
	for _, at := range []int64{0, max(done-1, 0), done, done + 1, reach, reach + 2, max(c.FinIn-2, 0), max(c.FinIn-1, 0), max(c.FinIn, 0), 391, 392, 393, 398, 399, 400, 999} {
		for _, d := range []int64{0, c.Acked, max(c.Acked-1, 0), c.Acked + 1, wrote, wrote + 1, wrote + 2, 999} {
			out = append(out, option{4, 1000*at + d, 0, true})
		}
	}
	sum := sumOfLoad(done, []byte("hi"))
	for _, b := range []int64{0, sum, sum + 1, max(sum-1, 0), 1000000} {
		out = append(out, option{4, 1000*done + wrote, b, false})
	}
	return append(out, option{4, 1000000, 0, true}, option{4, 1000000, 3, false})
}

func withOption(g impl.Segment, o option) impl.Segment {
	g.Opt, g.A, g.B = o.opt, o.a, o.b
	if o.sum {
		g.B = sumOfLoad(o.a/1000, g.Load)
	}
	return g
}

// aimedSegment takes one of each list; a Syn and a Rst have no Load.
func aimedSegment(c impl.Conn, path int64, flags int, a aim, seq, ack, end, opt, load int) impl.Segment {
	g := impl.Segment{Path: path, From: 1 - c.Side, Syn: flags&1 != 0, Ackd: flags&2 != 0, Rst: flags&4 != 0, Seq: a.seqs[seq], Ack: a.acks[ack], End: a.ends[end]}
	if !g.Syn && !g.Rst {
		g.Load = a.loads[load]
	}
	return withOption(g, a.opts[opt])
}

// everyAimed tells, for each path and all flags, the segments with one thing other than at first, and with each two.
func everyAimed(c impl.Conn, tell func(g impl.Segment)) {
	for path := range int64(3) {
		a := aimAt(c, path)
		counts := []int{len(a.seqs), len(a.acks), len(a.ends), len(a.opts), len(a.loads)}
		for flags := range 8 {
			ask := func(i [5]int) { tell(aimedSegment(c, path, flags, a, i[0], i[1], i[2], i[3], i[4])) }
			ask([5]int{})
			for one := range counts {
				for n := 1; n < counts[one]; n++ {
					var once [5]int
					once[one] = n
					ask(once)
					for two := one + 1; two < len(counts); two++ {
						for m := 1; m < counts[two]; m++ {
							twice := once
							twice[two] = m
							ask(twice)
						}
					}
				}
			}
		}
	}
}

// drawnAimed is a segment for that conn with each field drawn; most are for a path that is there, and neither Syn nor Rst.
func drawnAimed(draw *rand.Rand, c impl.Conn) impl.Segment {
	path := draw.Int63n(3)
	if len(c.Subs) > 0 && draw.Intn(4) > 0 {
		path = c.Subs[draw.Intn(len(c.Subs))].Path
	}
	a := aimAt(c, path)
	flags := []int{0, 2, 2, 2, 2, 1, 1, 3, 3, 4, 5, 6, 7}[draw.Intn(13)]
	pick := func(count int) int {
		if draw.Intn(3) == 0 {
			return 0
		}
		return draw.Intn(count)
	}
	return aimedSegment(c, path, flags, a, pick(len(a.seqs)), pick(len(a.acks)), pick(len(a.ends)), pick(len(a.opts)), pick(len(a.loads)))
}

// hearingConns are conns without a fault in each state that a path is heard in.
func hearingConns() (out []impl.Conn) {
	const asked, answered, open, closed = impl.SubAsked, impl.SubAnswered, impl.SubOpen, impl.SubClosed
	plain := func(c *impl.Conn) { c.Plain = true }
	free := func(c *impl.Conn) { c.Free = true }
	fin := func(c *impl.Conn) { c.Fin = true }
	ended := func(c *impl.Conn) { c.In, c.FinIn = gatherWith("abcdef", piece(8, "ij")), 12 }
	for _, states := range [][]int64{{asked}, {open}, {closed}, {open, asked}, {open, open}, {closed, asked, open}, {open, open, closed}} {
		out = append(out, connAt(0, pathsOf(1, states...)...))
	}
	for _, states := range [][]int64{{answered}, {open}, {closed}, {answered, answered}, {open, answered}, {open, open, answered}} {
		out = append(out, connAt(1, pathsOf(2, states...)...))
	}
	out = append(out, connAt(0), connAt(1), with(connAt(1), plain), impl.NewConn(0, 5).Conn, impl.NewConn(1, 999999).Conn)
	out = append(out, with(connAt(0, pathsOf(0, asked)...), plain), with(connAt(0, pathsOf(0, open)...), plain), with(connAt(1, pathsOf(0, answered)...), plain), with(connAt(1, pathsOf(0, open)...), plain))
	out = append(out, with(connAt(0, pathsOf(0, open, open)...), free), with(connAt(1, pathsOf(0, open, answered)...), free), with(connAt(1, pathsOf(1, open, open, open)...), free))
	out = append(out, with(connAt(0, pathsOf(0, open)...), fin), with(connAt(1, pathsOf(0, open)...), ended), with(connAt(1, pathsOf(0, open, open)...), ended), with(connAt(1, pathsOf(1, open)...), func(c *impl.Conn) { plain(c); ended(c); fin(c) }))
	out = append(out, with(connAt(1, pathsOf(0, open)...), func(c *impl.Conn) { c.Peer = 0 }), with(connAt(0, pathsOf(0, open, asked)...), func(c *impl.Conn) { c.Peer = 0 }))
	out = append(out, with(connAt(0, pathsOf(0, open)...), func(c *impl.Conn) { c.Fin, c.FinDone, c.Acked = true, true, 5 }), with(connAt(0, pathsOf(0, open)...), func(c *impl.Conn) { c.In, c.Given = combOf(40), 0 }))
	out = append(out, with(connAt(1, pathsOf(0, open)...), func(c *impl.Conn) { c.Subs[0].Catch = spanComb(65530, 0, 20, 1, 1) }), with(connAt(1, pathsOf(0, open)...), func(c *impl.Conn) { c.Subs[0].Catch = catchWith(65530, 0) }))
	for _, late := range append(lateCatches(), catchWith(9, 999998, span(999999, 1000000)), catchWith(3, 1000000), catchWith(5, 999996, span(999998, 1000004))) {
		out = append(out, with(connAt(1, pathsOf(0, open)...), func(c *impl.Conn) { c.Subs[0].Catch = late }))
	}
	return out
}

func checkHeard(t *testing.T, c impl.Conn, g impl.Segment, now int64) impl.ConnResult {
	t.Helper()
	got, want := impl.HearConn(c, g, now), hearModel(c, g, now)
	if !sameConns(got, want) {
		t.Fatalf("HearConn(%+v, %+v, %d) = %+v, want %+v", c, g, now, got, want)
	}
	return got
}

func TestHearConnAgainstModel(t *testing.T) {
	became := map[string]int{}
	count := 0
	for _, c := range hearingConns() {
		everyAimed(c, func(g impl.Segment) {
			if count++; count%9 != 0 {
				return
			}
			countTurns(became, c, checkHeard(t, c, g, 77), g)
		})
	}
	draw := rand.New(rand.NewSource(29))
	for _, c := range slices.Concat(rightConns(), drawnConns(150)) {
		for range 60 {
			g := drawnAimed(draw, c)
			countTurns(became, c, checkHeard(t, c, g, draw.Int63n(1000001)), g)
		}
	}
	for _, what := range turnNames() {
		if became[what] < 60 {
			t.Errorf("%s came only %d times", what, became[what])
		}
	}
}

func turnNames() []string {
	return []string{
		"nothing", "a first path", "a join", "a peer", "plain", "free", "asked that is open", "answered that is open", "asked that is closed", "open that is closed",
		"acked over a path", "known", "the end is known", "bytes in", "a place seen", "an end", "a refusal", "an answer", "told", "proved",
	}
}

// countTurns counts what became of a conn, so that no kind of hearing is left out unseen.
func countTurns(became map[string]int, c impl.Conn, heard impl.ConnResult, g impl.Segment) {
	is := heard.Conn
	add := func(what string, so bool) {
		if so {
			became[what]++
		}
	}
	add("nothing", sameConn(c, is) && len(heard.Send) == 0)
	add("a first path", len(c.Subs) == 0 && len(is.Subs) == 1)
	add("a join", len(c.Subs) > 0 && len(is.Subs) > len(c.Subs))
	add("a peer", c.Peer != is.Peer)
	add("plain", !c.Plain && is.Plain)
	add("free", !c.Free && is.Free)
	for i, x := range c.Subs {
		y := is.Subs[i]
		add("asked that is open", x.State == impl.SubAsked && y.State == impl.SubOpen)
		add("answered that is open", x.State == impl.SubAnswered && y.State == impl.SubOpen)
		add("asked that is closed", x.State == impl.SubAsked && y.State == impl.SubClosed)
		add("open that is closed", x.State == impl.SubOpen && y.State == impl.SubClosed)
		add("acked over a path", x.Send.Acked < y.Send.Acked)
		add("a place seen", x.State == impl.SubOpen && !sameCatch(x.Catch, y.Catch))
	}
	add("known", c.Acked < is.Acked)
	add("the end is known", !c.FinDone && is.FinDone)
	add("bytes in", !sameGather(c.In, is.In))
	add("an end", c.FinIn != is.FinIn)
	for _, sent := range heard.Send {
		add("a refusal", sent.Rst)
		add("an answer", sent.Syn && sent.Ackd)
		add("told", !sent.Syn && !sent.Rst && sent.Opt != impl.OptProof)
		add("proved", !sent.Syn && sent.Opt == impl.OptProof)
	}
}

// The codes stand in their order: the conn's, the segment's, whose it is, the time.
func TestHearConnCodes(t *testing.T) {
	right := connAt(1, pathsOf(0, impl.SubOpen)...)
	many := with(right, func(c *impl.Conn) { c.Wrote = lettersOf(301) })
	taken := with(right, func(c *impl.Conn) { c.Subs = []impl.Sub{pathOf(0, impl.SubOpen, false), pathOf(0, impl.SubOpen, true)} })
	g := impl.Segment{Ackd: true, Seq: 12, Ack: 65530}
	set := func(turn func(g *impl.Segment)) impl.Segment {
		turned := g
		turn(&turned)
		return turned
	}
	own := set(func(g *impl.Segment) { g.From = 1 })
	rows := []struct {
		what string
		c    impl.Conn
		g    impl.Segment
		now  int64
		code int64
	}{
		{"ordinary", right, g, 5, impl.OK},
		{"now 0", right, g, 0, impl.OK},
		{"now 10^6", right, g, 1000000, impl.OK},
		{"now -1", right, g, -1, impl.ErrRange},
		{"now 10^6 + 1", right, g, 1000001, impl.ErrRange},
		{"now least", right, g, math.MinInt64, impl.ErrRange},
		{"now greatest", right, g, math.MaxInt64, impl.ErrRange},
		{"its own", right, own, 5, impl.ErrForm},
		{"its own, ahead of now", right, own, -1, impl.ErrForm},
		{"too long a Load", right, set(func(g *impl.Segment) { g.Load = lettersOf(9) }), 5, impl.ErrMany},
		{"too long a Load, ahead of its own", right, set(func(g *impl.Segment) { g.From, g.Load = 1, lettersOf(9) }), 5, impl.ErrMany},
		{"too long a Load, ahead of now", right, set(func(g *impl.Segment) { g.Load = lettersOf(9) }), -1, impl.ErrMany},
		{"Path 3", right, set(func(g *impl.Segment) { g.Path = 3 }), 5, impl.ErrRange},
		{"Path -1", right, set(func(g *impl.Segment) { g.Path = -1 }), 5, impl.ErrRange},
		{"Path 3, its own: the segment's code", right, set(func(g *impl.Segment) { g.Path, g.From = 3, 1 }), 5, impl.ErrRange},
		{"From 2", right, set(func(g *impl.Segment) { g.From = 2 }), 5, impl.ErrRange},
		{"A without an option", right, set(func(g *impl.Segment) { g.A = 1 }), 5, impl.ErrForm},
		{"a Load with Syn", right, set(func(g *impl.Segment) { g.Syn, g.Load = true, []byte("x") }), 5, impl.ErrForm},
		{"a Load with Rst", right, set(func(g *impl.Segment) { g.Rst, g.Load = true, []byte("x") }), 5, impl.ErrForm},
		{"too much written", many, g, 5, impl.ErrMany},
		{"too much written, ahead of Path 3", many, set(func(g *impl.Segment) { g.Path = 3 }), 5, impl.ErrMany},
		{"too much written, ahead of its own", many, own, -1, impl.ErrMany},
		{"a path that is taken, ahead of too long a Load", taken, set(func(g *impl.Segment) { g.Load = lettersOf(9) }), 5, impl.ErrTaken},
		{"a path that is taken, ahead of now", taken, g, -1, impl.ErrTaken},
		{"the zero conn", impl.Conn{}, impl.Segment{}, 0, impl.ErrRange},
	}
	for _, row := range rows {
		got := impl.HearConn(row.c, row.g, row.now)
		if got.Code != row.code || row.code != impl.OK && !sameConns(got, impl.ConnResult{Code: row.code}) {
			t.Errorf("%s: HearConn = %+v, want the code %d", row.what, got, row.code)
		}
	}
}

// Each fault of a conn, each of a segment, and both at once.
func TestHearConnCodesAgainstModel(t *testing.T) {
	told := map[int64]int{}
	check := func(c impl.Conn, g impl.Segment, now int64) {
		told[checkHeard(t, c, g, now).Code]++
		if got, want := impl.WhereData(c, g), whereModel(c, g); got != want {
			t.Fatalf("WhereData(%+v, %+v) = %+v, want %+v", c, g, got, want)
		}
	}
	segments := manySegments()
	conns := []impl.Conn{connAt(0, pathsOf(0, impl.SubOpen)...), connAt(1, pathsOf(1, impl.SubOpen, impl.SubAnswered)...), connAt(1)}
	for i := 0; i < len(segments); i += 3 {
		check(conns[i%3], segments[i], []int64{5, -1, 1000001}[i/3%3])
	}
	count := 0
	turnedConns(func(c impl.Conn) {
		if count++; count%9 == 0 {
			check(c, segments[count%len(segments)], []int64{5, -1}[count%2])
			check(c, impl.Segment{Path: int64(count % 3), From: int64(count / 3 % 2), Ackd: true}, 5)
		}
	})
	for i, c := range wrongConns() {
		check(c, impl.Segment{From: int64(i % 2), Ackd: true}, 5)
		check(c, segments[i%len(segments)], math.MinInt64)
	}
	for _, code := range []int64{impl.OK, impl.ErrForm, impl.ErrMany, impl.ErrRange, impl.ErrTaken} {
		if told[code] < 20 {
			t.Errorf("the code %d came only %d times", code, told[code])
		}
	}
}

// hearingRow is a segment that a conn hears, and what becomes of it.
type hearingRow struct {
	what string
	c    impl.Conn
	g    impl.Segment
	turn func(c *impl.Conn)
	send []impl.Segment
}

func checkRows(t *testing.T, rows []hearingRow) {
	t.Helper()
	for _, row := range rows {
		want := impl.ConnResult{Conn: cloneConn(row.c), Send: row.send}
		if row.turn != nil {
			row.turn(&want.Conn)
		}
		if got := impl.HearConn(row.c, row.g, 6); !sameConns(got, want) {
			t.Errorf("%s: HearConn = %+v, want %+v", row.what, got, want)
		}
	}
}

func shutSub(k int) func(c *impl.Conn) {
	return func(c *impl.Conn) {
		x := &c.Subs[k]
		x.State, x.Send.Flights, x.Send.Next = impl.SubClosed, nil, x.Send.Acked
	}
}

func TestHearConnRst(t *testing.T) {
	open := connAt(0, pathsOf(1, impl.SubOpen, impl.SubAsked)...)
	g := impl.Segment{Path: 1, From: 1, Rst: true}
	of := func(turn func(g *impl.Segment)) impl.Segment {
		turned := g
		turn(&turned)
		return turned
	}
	checkRows(t, []hearingRow{
		{"the first path", open, g, shutSub(0), nil},
		{"a join that is asked", open, of(func(g *impl.Segment) { g.Path = 2 }), shutSub(1), nil},
		{"no sub", open, of(func(g *impl.Segment) { g.Path = 0 }), nil, nil},
		{"no subs", connAt(0), g, nil, nil},
		{"closed already", connAt(0, pathsOf(1, impl.SubClosed)...), g, nil, nil},
		{"the only path, asked", connAt(0, pathsOf(1, impl.SubAsked)...), g, shutSub(0), nil},
		{"the only path, answered", connAt(1, pathsOf(1, impl.SubAnswered)...), of(func(g *impl.Segment) { g.From = 0 }), shutSub(0), nil},
		{"with Syn", open, of(func(g *impl.Segment) { g.Syn = true }), shutSub(0), nil},
		{"with Syn and Ackd", open, of(func(g *impl.Segment) { g.Syn, g.Ackd = true, true }), shutSub(0), nil},
		{"with Ackd and all else", open, of(func(g *impl.Segment) { g.Ackd, g.Ack, g.End, g.Opt, g.A, g.B = true, 65533, 14, impl.OptMap, 5, 7 }), shutSub(0), nil},
		{"Syn and Rst without any subs at the side 1", connAt(1), impl.Segment{Syn: true, Rst: true, Opt: impl.OptKey, A: 5}, nil, nil},
	})
}

func TestHearConnAsks(t *testing.T) {
	const asked, answered, open, closed = impl.SubAsked, impl.SubAnswered, impl.SubOpen, impl.SubClosed
	fresh := impl.Conn{Side: 1, Key: 5, FinIn: -1}
	start := func(path int64) int64 { return mixModel(5, 2+path) % 65536 }
	begun := func(path int64) impl.Sub {
		return impl.Sub{Path: path, State: answered, Sent: 6, Send: impl.Sender{Start: start(path)}, Catch: impl.Catch{Start: 777}, Control: impl.Control{Window: 16, Bound: 64}}
	}
	ask := func(path, opt, a, b int64) impl.Segment {
		return impl.Segment{Path: path, Syn: true, Seq: 777, Ack: 12, End: 4, Opt: opt, A: a, B: b}
	}
	first := func(path int64, peer int64) func(c *impl.Conn) {
		return func(c *impl.Conn) { c.Peer, c.Plain, c.Subs = peer, peer == 0, []impl.Sub{begun(path)} }
	}
	keyed := func(path int64) []impl.Segment {
		return []impl.Segment{{Path: path, From: 1, Syn: true, Ackd: true, Seq: start(path), Ack: 777, Opt: impl.OptKey, A: 5}}
	}
	bare := []impl.Segment{{Path: 1, From: 1, Syn: true, Ackd: true, Seq: start(1), Ack: 777}}
	refused := func(path int64) []impl.Segment {
		return []impl.Segment{{Path: path, From: 1, Rst: true, Seq: 12, Ack: 777}}
	}
	one := connAt(1, pathsOf(0, open)...)
	token := mixModel(5, 1)
	join := func(path, b int64) func(c *impl.Conn) {
		return func(c *impl.Conn) {
			x := begun(path)
			x.Join, x.Other, x.Nonce = true, b, mixModel(5, b)
			c.Subs = append(c.Subs, x)
		}
	}
	proved := func(path, b int64) []impl.Segment {
		return []impl.Segment{{Path: path, From: 1, Syn: true, Ackd: true, Seq: start(path), Ack: 777, Opt: impl.OptProof, A: mixModel(5, 7, b), B: mixModel(5, b)}}
	}
	plainOne := with(one, func(c *impl.Conn) { c.Plain = true })
	unknown := with(one, func(c *impl.Conn) { c.Peer = 0 })
	checkRows(t, []hearingRow{
		{"the first path", fresh, ask(1, impl.OptKey, 7, 0), first(1, 7), keyed(1)},
		{"the first path, the last key", fresh, ask(2, impl.OptKey, 999999, 4), first(2, 999999), keyed(2)},
		{"the first path, key 1", fresh, ask(0, impl.OptKey, 1, 0), first(0, 1), keyed(0)},
		{"no key 0", fresh, ask(1, impl.OptKey, 0, 0), first(1, 0), bare},
		{"no key 10^6", fresh, ask(1, impl.OptKey, 1000000, 0), first(1, 0), bare},
		{"the option vanished", fresh, ask(1, impl.OptNone, 0, 0), first(1, 0), bare},
		{"another option, with a key in A", fresh, ask(1, impl.OptJoin, 7, 0), first(1, 0), bare},
		{"a map, with a key in A", fresh, ask(1, impl.OptMap, 7, 0), first(1, 0), bare},
		{"the first path by the token", with(fresh, func(c *impl.Conn) { c.Peer = 7 }), ask(1, impl.OptJoin, token, 3), func(c *impl.Conn) { c.Plain, c.Subs = true, []impl.Sub{begun(1)} }, bare},
		{"Plain already, with a key", with(fresh, func(c *impl.Conn) { c.Plain = true }), ask(1, impl.OptKey, 7, 0), func(c *impl.Conn) { c.Peer, c.Subs = 7, []impl.Sub{begun(1)} }, bare},
		{"the first path at the side 0", connAt(0), impl.Segment{Path: 1, From: 1, Syn: true, Seq: 777, Opt: impl.OptKey, A: 7}, nil, nil},
		{"a join", one, ask(1, impl.OptJoin, token, 3), join(1, 3), proved(1, 3)},
		{"a join, nonce 0", one, ask(2, impl.OptJoin, token, 0), join(2, 0), proved(2, 0)},
		{"a join, nonce 10^6", one, ask(2, impl.OptJoin, token, 1000000), join(2, 1000000), proved(2, 1000000)},
		{"a join, the first path is closed", connAt(1, pathsOf(0, closed)...), ask(1, impl.OptJoin, token, 3), join(1, 3), proved(1, 3)},
		{"a join, the first path is answered", connAt(1, pathsOf(0, answered)...), ask(1, impl.OptJoin, token, 3), join(1, 3), proved(1, 3)},
		{"a third path", connAt(1, pathsOf(0, open, answered)...), ask(2, impl.OptJoin, token, 3), join(2, 3), proved(2, 3)},
		{"a join, 1 below the token", one, ask(1, impl.OptJoin, token-1, 3), nil, refused(1)},
		{"a join, 1 above the token", one, ask(1, impl.OptJoin, token+1, 3), nil, refused(1)},
		{"a join by the peer's token", one, ask(1, impl.OptJoin, mixModel(7, 1), 3), nil, refused(1)},
		{"a join by the key", one, ask(1, impl.OptJoin, 5, 3), nil, refused(1)},
		{"the token by another option", one, ask(1, impl.OptKey, token, 3), nil, refused(1)},
		{"the token as a proof", one, ask(1, impl.OptProof, token, 3), nil, refused(1)},
		{"a join without an option", one, ask(1, impl.OptNone, 0, 0), nil, refused(1)},
		{"a join, Plain", plainOne, ask(1, impl.OptJoin, token, 3), nil, refused(1)},
		{"a join, Peer not known", unknown, ask(1, impl.OptJoin, token, 3), nil, refused(1)},
		{"a second path by its key", one, ask(1, impl.OptKey, 7, 0), nil, refused(1)},
		{"a join at the side 0", connAt(0, pathsOf(0, open)...), impl.Segment{Path: 1, From: 1, Syn: true, Seq: 777, Opt: impl.OptJoin, A: token}, nil, nil},
		{"closed", connAt(1, pathsOf(0, closed)...), ask(0, impl.OptKey, 7, 0), nil, refused(0)},
		{"closed, at the side 0", connAt(0, pathsOf(0, closed)...), impl.Segment{From: 1, Syn: true}, nil, nil},
		{"asked, at the side 0", connAt(0, pathsOf(0, asked)...), impl.Segment{From: 1, Syn: true, Seq: 7, Ack: 65530}, nil, nil},
	})
}

// Who asks again with the number it began at is answered as at first, open or not; with another one nothing is told.
func TestHearConnAsksAgain(t *testing.T) {
	const answered, open, closed = impl.SubAnswered, impl.SubOpen, impl.SubClosed
	c := connAt(1, pathsOf(1, answered, open, answered)...)
	keyed := impl.Segment{Path: 1, From: 1, Syn: true, Ackd: true, Seq: 65531, Ack: 7, Opt: impl.OptKey, A: 5}
	bare := impl.Segment{Path: 1, From: 1, Syn: true, Ackd: true, Seq: 65531, Ack: 7}
	proof := func(path int64) impl.Segment {
		return impl.Segment{Path: path, From: 1, Syn: true, Ackd: true, Seq: 65530 + path, Ack: 7, Opt: impl.OptProof, A: mixModel(5, 7, 4), B: 3}
	}
	plain := func(c impl.Conn) impl.Conn { return with(c, func(c *impl.Conn) { c.Plain = true }) }
	again := func(path, seq, opt, a int64) impl.Segment {
		return impl.Segment{Path: path, Syn: true, Seq: seq, Ack: 40, Opt: opt, A: a}
	}
	checkRows(t, []hearingRow{
		{"the first path, answered", c, again(1, 7, impl.OptKey, 7), nil, []impl.Segment{keyed}},
		{"the first path, by another key", c, again(1, 7, impl.OptKey, 8), nil, []impl.Segment{keyed}},
		{"the first path, the option vanished", c, again(1, 7, impl.OptNone, 0), nil, []impl.Segment{keyed}},
		{"the first path, open", connAt(1, pathsOf(1, open)...), again(1, 7, impl.OptKey, 7), nil, []impl.Segment{keyed}},
		{"the first path, Plain", plain(connAt(1, pathsOf(1, answered)...)), again(1, 7, impl.OptKey, 7), nil, []impl.Segment{bare}},
		{"a join, open", c, again(2, 7, impl.OptJoin, mixModel(5, 1)), nil, []impl.Segment{proof(2)}},
		{"a join, answered", c, again(0, 7, impl.OptJoin, mixModel(5, 1)), nil, []impl.Segment{proof(0)}},
		{"a join, by a wrong token", c, again(0, 7, impl.OptJoin, 1), nil, []impl.Segment{proof(0)}},
		{"another number", c, again(1, 8, impl.OptKey, 7), nil, nil},
		{"another number of a join", c, again(0, 6, impl.OptJoin, mixModel(5, 1)), nil, nil},
		{"the number that is next", c, again(1, 12, impl.OptKey, 7), nil, nil},
		{"closed", connAt(1, pathsOf(1, closed)...), again(1, 7, impl.OptKey, 7), nil, []impl.Segment{{Path: 1, From: 1, Rst: true, Seq: 40, Ack: 7}}},
		{"closed, another number", connAt(1, pathsOf(1, closed)...), again(1, 8, impl.OptKey, 7), nil, []impl.Segment{{Path: 1, From: 1, Rst: true, Seq: 40, Ack: 8}}},
		{"a join that is closed, by the token", connAt(1, pathsOf(0, open, closed)...), again(1, 7, impl.OptJoin, mixModel(5, 1)), nil, []impl.Segment{{Path: 1, From: 1, Rst: true, Seq: 40, Ack: 7}}},
	})
}

func TestHearConnAnswersFirst(t *testing.T) {
	const asked, open, closed = impl.SubAsked, impl.SubOpen, impl.SubClosed
	c := connAt(0, pathsOf(1, asked)...)
	answer := func(seq, ack, opt, a int64) impl.Segment {
		return impl.Segment{Path: 1, From: 1, Syn: true, Ackd: true, Seq: seq, Ack: ack, End: 9, Opt: opt, A: a}
	}
	opened := func(peer int64, plain bool) func(c *impl.Conn) {
		return func(c *impl.Conn) {
			c.Peer, c.Plain, c.Subs[0].State, c.Subs[0].Catch.Start = peer, plain, open, 900
		}
	}
	told := []impl.Segment{{Path: 1, Ackd: true, Seq: 65531, Ack: 905, Opt: impl.OptMap, A: 6}}
	bare := []impl.Segment{{Path: 1, Ackd: true, Seq: 65531, Ack: 905}}
	refused := []impl.Segment{{Path: 1, Rst: true, Seq: 65531, Ack: 900}}
	there := connAt(0, pathsOf(1, open)...)
	thereTold := []impl.Segment{{Path: 1, Ackd: true, Seq: (65531 + 10) % 65536, Ack: 12, Opt: impl.OptMap, A: 6}}
	checkRows(t, []hearingRow{
		{"by a key", c, answer(900, 65531, impl.OptKey, 9), opened(9, false), told},
		{"by the last key", c, answer(900, 65531, impl.OptKey, 999999), opened(999999, false), told},
		{"no key 0", c, answer(900, 65531, impl.OptKey, 0), opened(7, true), bare},
		{"no key 10^6", c, answer(900, 65531, impl.OptKey, 1000000), opened(7, true), bare},
		{"the option vanished", c, answer(900, 65531, impl.OptNone, 0), opened(7, true), bare},
		{"a proof in its place", c, answer(900, 65531, impl.OptProof, mixModel(7, 5, 3)), opened(7, true), bare},
		{"Plain already", with(c, func(c *impl.Conn) { c.Plain = true }), answer(900, 65531, impl.OptKey, 9), opened(9, true), bare},
		{"Ack 1 below", c, answer(900, 65530, impl.OptKey, 9), nil, nil},
		{"Ack 1 above", c, answer(900, 65532, impl.OptKey, 9), nil, nil},
		{"no sub", connAt(0, pathsOf(2, asked)...), answer(900, 65531, impl.OptKey, 9), nil, refused},
		{"no subs", connAt(0), answer(900, 65531, impl.OptKey, 9), nil, refused},
		{"closed", connAt(0, pathsOf(1, closed)...), answer(900, 65531, impl.OptKey, 9), nil, refused},
		{"open, told again", there, answer(7, 65531, impl.OptKey, 9), nil, thereTold},
		{"open, told again with another Ack", there, answer(7, 3, impl.OptNone, 0), nil, thereTold},
		{"open, another number", there, answer(8, 65531, impl.OptKey, 9), nil, nil},
		{"open, the number that is next", there, answer(12, 65531, impl.OptKey, 9), nil, nil},
		{"at the side 1, no subs", connAt(1), impl.Segment{Path: 1, Syn: true, Ackd: true}, nil, nil},
		{"at the side 1, answered", connAt(1, pathsOf(1, impl.SubAnswered)...), impl.Segment{Path: 1, Syn: true, Ackd: true, Seq: 7, Ack: 65531}, nil, nil},
		{"at the side 1, closed", connAt(1, pathsOf(1, closed)...), impl.Segment{Path: 1, Syn: true, Ackd: true, Seq: 7, Ack: 65531}, nil, nil},
	})
}

// beganCatches are what the catch of a path may have seen while it was asked for.
func beganCatches() []impl.Catch {
	return append(lateCatches(),
		catchWith(7, 0), catchWith(7, 3), catchWith(7, 1000000), catchWith(7, 3, span(5, 9)), catchWith(7, 0, span(1, 2)),
		catchWith(7, 5, span(8, 10), span(12, 13)), catchWith(65535, 65536), spanComb(7, 0, 20, 1, 1), spanComb(7, 40, 20, 3, 2))
}

// Where the catch of a path begins is told by who answers; what it had seen by then stays, for a Join and for the first path.
func TestHearConnAnswersBeginTheCatch(t *testing.T) {
	for _, was := range beganCatches() {
		first := with(connAt(0, pathsOf(1, impl.SubAsked)...), func(c *impl.Conn) { c.Subs[0].Catch = was })
		joined := with(connAt(0, pathsOf(2, impl.SubOpen, impl.SubClosed, impl.SubAsked)...), func(c *impl.Conn) { c.Subs[2].Catch = was })
		for _, seq := range []int64{0, 7, 12, 20, 65535} {
			g := impl.Segment{Path: 1, From: 1, Syn: true, Ackd: true, Seq: seq, Ack: 65531}
			key := impl.HearConn(first, withOption(g, option{impl.OptKey, 9, 0, false}), 6)
			plain := impl.HearConn(first, g, 6)
			proof := impl.HearConn(joined, withOption(g, option{impl.OptProof, mixModel(7, 5, 3), 8, false}), 6)
			for _, got := range []impl.ConnResult{key, plain, proof} {
				x := got.Conn.Subs[len(got.Conn.Subs)-1]
				if x.State != impl.SubOpen || x.Catch.Start != seq || x.Catch.Next != was.Next || !slices.Equal(x.Catch.Spans, was.Spans) {
					t.Errorf("%+v at %d begins %+v", was, seq, x.Catch)
				}
				if len(got.Send) != 1 || got.Send[0].Ack != (seq+was.Next)%65536 || impl.ConnFault(got.Conn) != impl.OK {
					t.Errorf("%+v at %d is answered by %+v", was, seq, got.Send)
				}
			}
			if !sameResult(impl.TellSegment(key.Conn, 1), impl.SegmentResult{Segment: key.Send[0]}) || !sameResult(impl.ProveSegment(proof.Conn, 1), impl.SegmentResult{Segment: proof.Send[0]}) {
				t.Errorf("%+v at %d tells %+v, proves %+v", was, seq, key.Send, proof.Send)
			}
		}
	}
}

// The catch of a Join that is not proved stays as it is, too: where it begins was told by nobody who may.
func TestHearConnNotProvedCatchStays(t *testing.T) {
	for _, was := range beganCatches() {
		c := with(connAt(0, pathsOf(2, impl.SubOpen, impl.SubAsked)...), func(c *impl.Conn) { c.Subs[1].Catch = was })
		g := impl.Segment{Path: 0, From: 1, Syn: true, Ackd: true, Seq: 20, Ack: 65530, Opt: impl.OptProof, A: mixModel(7, 5, 3) + 1, B: 8}
		if x := impl.HearConn(c, g, 6).Conn.Subs[1]; x.State != impl.SubClosed || !sameCatch(x.Catch, was) {
			t.Errorf("%+v became %+v", was, x)
		}
	}
}

func TestHearConnAnswersJoin(t *testing.T) {
	const asked, open, closed = impl.SubAsked, impl.SubOpen, impl.SubClosed
	c := connAt(0, pathsOf(1, open, asked)...)
	good := mixModel(7, 5, 3)
	answer := func(seq, ack, opt, a, b int64) impl.Segment {
		return impl.Segment{Path: 2, From: 1, Syn: true, Ackd: true, Seq: seq, Ack: ack, Opt: opt, A: a, B: b}
	}
	opened := func(other int64) func(c *impl.Conn) {
		return func(c *impl.Conn) {
			x := &c.Subs[1]
			c.Free, x.State, x.Catch.Start, x.Other = true, open, 900, other
		}
	}
	proved := func(other int64) []impl.Segment {
		return []impl.Segment{{Path: 2, Ackd: true, Seq: 65532, Ack: 905, Opt: impl.OptProof, A: mixModel(5, 7, other)}}
	}
	refused := []impl.Segment{{Path: 2, Rst: true, Seq: 65532, Ack: 900}}
	there := with(connAt(0, pathsOf(1, open, open)...), func(c *impl.Conn) { c.Free, c.Fin = true, true })
	thereProved := []impl.Segment{{Path: 2, Ackd: true, Seq: (65532 + 15) % 65536, Ack: 12, End: 6, Opt: impl.OptProof, A: mixModel(5, 7, 4)}}
	unknown := with(c, func(c *impl.Conn) { c.Peer = 0 })
	checkRows(t, []hearingRow{
		{"proved", c, answer(900, 65532, impl.OptProof, good, 44), opened(44), proved(44)},
		{"proved, nonce 0", c, answer(900, 65532, impl.OptProof, good, 0), opened(0), proved(0)},
		{"proved, nonce 10^6", c, answer(900, 65532, impl.OptProof, good, 1000000), opened(1000000), proved(1000000)},
		{"1 below the proof", c, answer(900, 65532, impl.OptProof, good-1, 44), shutSub(1), refused},
		{"1 above the proof", c, answer(900, 65532, impl.OptProof, good+1, 44), shutSub(1), refused},
		{"the side's own proof", c, answer(900, 65532, impl.OptProof, mixModel(5, 7, 3), 44), shutSub(1), refused},
		{"the proof of another nonce", c, answer(900, 65532, impl.OptProof, mixModel(7, 5, 4), 44), shutSub(1), refused},
		{"the proof by another option", c, answer(900, 65532, impl.OptJoin, good, 44), shutSub(1), refused},
		{"the proof as a key", c, answer(900, 65532, impl.OptKey, good, 44), shutSub(1), refused},
		{"the proof as a map", c, answer(900, 65532, impl.OptMap, good, 44), shutSub(1), refused},
		{"the option vanished", c, answer(900, 65532, impl.OptNone, 0, 0), shutSub(1), refused},
		{"proved, Ack 1 below", c, answer(900, 65531, impl.OptProof, good, 44), nil, nil},
		{"not proved, Ack 1 above", c, answer(900, 65533, impl.OptNone, 0, 0), nil, nil},
		{"Peer not known, proved by none", unknown, answer(900, 65532, impl.OptProof, mixModel(0, 5, 3), 44), func(c *impl.Conn) { opened(44)(c) }, []impl.Segment{{Path: 2, Ackd: true, Seq: 65532, Ack: 905, Opt: impl.OptProof, A: mixModel(5, 0, 44)}}},
		{"closed", connAt(0, pathsOf(1, open, closed)...), answer(900, 65532, impl.OptProof, good, 44), nil, refused},
		{"open, told again", there, answer(7, 65532, impl.OptProof, good, 44), nil, thereProved},
		{"open, told again without the proof", there, answer(7, 1, impl.OptNone, 0, 0), nil, thereProved},
		{"open, another number", there, answer(6, 65532, impl.OptProof, good, 44), nil, nil},
	})
}

// What is not open yet is opened by an ack, a Join by the proof alone; what is closed or not there is refused.
func TestHearConnOpens(t *testing.T) {
	const asked, answered, open, closed = impl.SubAsked, impl.SubAnswered, impl.SubOpen, impl.SubClosed
	first := connAt(1, pathsOf(1, answered)...)
	joined := connAt(1, pathsOf(0, open, answered)...)
	good := mixModel(7, 5, 3)
	tell := func(ackd bool, opt, a int64, load string) impl.Segment {
		g := impl.Segment{Path: 1, Ackd: ackd, Seq: 12, Ack: 65531, Opt: opt, A: a, Load: []byte(load)}
		if opt == impl.OptMap {
			g.B = sumOfLoad(a/1000, g.Load)
		}
		return g
	}
	opens := func(k int) func(c *impl.Conn) {
		return func(c *impl.Conn) { c.Subs[k].State, c.Free = open, k > 0 }
	}
	refused := []impl.Segment{{Path: 1, From: 1, Rst: true, Seq: 65531, Ack: 12}}
	checkRows(t, []hearingRow{
		{"the first path", first, tell(true, impl.OptMap, 2, ""), opens(0), nil},
		{"the first path, no option", first, tell(true, impl.OptNone, 0, ""), opens(0), nil},
		{"the first path, by a wrong proof", first, tell(true, impl.OptProof, 1, ""), opens(0), nil},
		{"the first path, not Ackd", first, tell(false, impl.OptMap, 2, ""), nil, nil},
		{"the first path, not Ackd, with a Load", first, tell(false, impl.OptMap, 6002, "gh"), nil, nil},
		{"the first path, with a Load", first, tell(true, impl.OptMap, 6002, "gh"), func(c *impl.Conn) {
			opens(0)(c)
			c.In, c.Subs[0].Catch = gatherWith("abcdefghij", piece(12, "m")), catchWith(7, 7, span(8, 10), span(12, 13))
		}, []impl.Segment{{Path: 1, From: 1, Ackd: true, Seq: 65531, Ack: 14, Opt: impl.OptMap, A: 10}}},
		{"a join by the proof", joined, tell(true, impl.OptProof, good, ""), opens(1), nil},
		{"a join by 1 below it", joined, tell(true, impl.OptProof, good-1, ""), nil, nil},
		{"a join by 1 above it", joined, tell(true, impl.OptProof, good+1, ""), nil, nil},
		{"a join by this side's proof", joined, tell(true, impl.OptProof, mixModel(5, 7, 3), ""), nil, nil},
		{"a join by the proof of its Other", joined, tell(true, impl.OptProof, mixModel(7, 5, 4), ""), nil, nil},
		{"a join by the proof, not Ackd", joined, tell(false, impl.OptProof, good, ""), nil, nil},
		{"a join by the proof as another option", joined, tell(true, impl.OptJoin, good, ""), nil, nil},
		{"a join without a proof, with a Load", joined, tell(true, impl.OptMap, 6002, "gh"), nil, nil},
		{"a join without an option, with a Load", joined, tell(true, impl.OptNone, 0, "gh"), nil, nil},
		{"a join by the proof, with a Load that tells no place", joined, tell(true, impl.OptProof, good, "gh"), func(c *impl.Conn) {
			opens(1)(c)
			shutSub(1)(c)
		}, refused},
		{"asked", connAt(0, pathsOf(1, asked)...), impl.Segment{Path: 1, From: 1, Ackd: true, Ack: 65531, End: 14, Load: []byte("gh")}, nil, nil},
		{"a join that is asked, proved", connAt(0, pathsOf(0, open, asked)...), impl.Segment{Path: 1, From: 1, Ackd: true, Ack: 65531, Opt: impl.OptProof, A: good}, nil, nil},
		{"closed", connAt(1, pathsOf(1, closed)...), tell(true, impl.OptMap, 2, ""), nil, refused},
		{"closed, with a Load", connAt(1, pathsOf(1, closed)...), tell(false, impl.OptMap, 6002, "gh"), nil, refused},
		{"no sub", connAt(1, pathsOf(2, open)...), tell(true, impl.OptMap, 2, ""), nil, refused},
		{"no subs", connAt(1), tell(true, impl.OptMap, 2, ""), nil, refused},
		{"no subs, at the side 0", connAt(0), impl.Segment{Path: 1, From: 1, Seq: 12, Ack: 65531}, nil, []impl.Segment{{Path: 1, Rst: true, Seq: 65531, Ack: 12}}},
	})
}

func TestHearConnAcks(t *testing.T) {
	const open = impl.SubOpen
	// The path 1 begins at 65531, and has 5 acked; "abc" ends at 8, "de" at 10: the numbers 65536, 65539, 65541.
	c := connAt(0, pathsOf(1, open)...)
	two := connAt(0, pathsOf(1, open, open)...)
	fin := func(c impl.Conn) impl.Conn { return with(c, func(c *impl.Conn) { c.Fin = true }) }
	plain := func(c impl.Conn) impl.Conn { return with(c, func(c *impl.Conn) { c.Plain = true }) }
	free := func(c impl.Conn) impl.Conn { return with(c, func(c *impl.Conn) { c.Free = true }) }
	long := func(c impl.Conn) impl.Conn { return with(c, func(c *impl.Conn) { c.Wrote = lettersOf(9) }) }
	ack := func(place, opt, a int64) impl.Segment {
		return impl.Segment{Path: 1, From: 1, Ackd: true, Seq: 12, Ack: (65531 + place) % 65536, Opt: opt, A: a}
	}
	quiet := func(g impl.Segment) impl.Segment {
		g.Ackd = false
		return g
	}
	first := func(window int64) func(c *impl.Conn) {
		return func(c *impl.Conn) { c.Subs[0].Send, c.Subs[0].Control.Window = senderAfter(c.Subs[0].Send, 1), window }
	}
	all := func(window int64) func(c *impl.Conn) {
		return func(c *impl.Conn) { c.Subs[0].Send, c.Subs[0].Control.Window = senderAfter(c.Subs[0].Send, 2), window }
	}
	known := func(acked int64, turns ...func(c *impl.Conn)) func(c *impl.Conn) {
		return func(c *impl.Conn) {
			for _, turn := range turns {
				turn(c)
			}
			c.Acked = acked
		}
	}
	finDone := func(c *impl.Conn) { c.Acked, c.FinDone = 5, true }
	checkRows(t, []hearingRow{
		{"nothing new", c, ack(5, impl.OptMap, 2), nil, nil},
		{"one flight", c, ack(8, impl.OptMap, 2), first(19), nil},
		{"all flights", c, ack(10, impl.OptMap, 2), all(21), nil},
		{"within a flight", c, ack(6, impl.OptMap, 2), nil, nil},
		{"more than is on its way", c, ack(11, impl.OptMap, 2), nil, nil},
		{"behind what was acked", c, ack(2, impl.OptMap, 2), nil, nil},
		{"not Ackd", c, quiet(ack(10, impl.OptMap, 4)), nil, nil},
		{"not Ackd, no option", long(c), quiet(ack(10, impl.OptNone, 0)), nil, nil},
		{"known: more", c, ack(5, impl.OptMap, 4), known(4), nil},
		{"known: all", c, ack(5, impl.OptMap, 5), known(5), nil},
		{"known: less", c, ack(5, impl.OptMap, 1), nil, nil},
		{"known: 1 more than was written", c, ack(5, impl.OptMap, 6), nil, nil},
		{"known: far more", c, ack(5, impl.OptMap, 999), nil, nil},
		{"known, beside a place", c, ack(5, impl.OptMap, 77004), known(4), nil},
		{"known, where the ack has a code", c, ack(11, impl.OptMap, 4), known(4), nil},
		{"known, and one flight", c, ack(8, impl.OptMap, 4), known(4, first(19)), nil},
		{"A is 10^6", c, ack(5, impl.OptMap, 1000000), nil, nil},
		{"the end", fin(c), ack(5, impl.OptMap, 6), finDone, nil},
		{"the end, beside a place", fin(c), ack(5, impl.OptMap, 399006), finDone, nil},
		{"all but the end", fin(c), ack(5, impl.OptMap, 5), known(5), nil},
		{"1 more than the end", fin(c), ack(5, impl.OptMap, 7), nil, nil},
		{"the end, not Ackd", fin(c), quiet(ack(5, impl.OptMap, 6)), nil, nil},
		{"the end is known, less is told", with(fin(c), finDone), ack(5, impl.OptMap, 3), nil, nil},
		{"no option: what came over the path", long(c), ack(8, impl.OptNone, 0), known(8, first(19)), nil},
		{"no option: not more than was written", c, ack(8, impl.OptNone, 0), known(5, first(19)), nil},
		{"another option", long(c), ack(8, impl.OptProof, 3), known(8, first(19)), nil},
		{"no option: what was acked ahead of it", long(c), ack(3, impl.OptNone, 0), known(5), nil},
		{"no option, the ack has a code", long(c), ack(9, impl.OptNone, 0), known(5), nil},
		{"no option, less than is known", with(long(c), func(c *impl.Conn) { c.Acked = 9 }), ack(8, impl.OptNone, 0), first(19), nil},
		{"Plain, by a map", plain(long(c)), ack(8, impl.OptMap, 3), known(8, first(19)), nil},
		{"Plain, by a map that tells the end", plain(fin(c)), ack(8, impl.OptMap, 6), known(5, first(19)), nil},
		{"two paths, not Free", long(two), ack(8, impl.OptNone, 0), known(8, first(19)), nil},
		{"two paths, Free", free(long(two)), ack(8, impl.OptNone, 0), first(19), nil},
		{"two paths, Free, by a map", free(long(two)), ack(8, impl.OptMap, 7), known(7, first(19)), nil},
		{"the second path, no option", long(two), impl.Segment{Path: 2, From: 1, Ackd: true, Seq: 12, Ack: 6}, nil, nil},
	})
}

// senderAfter is that sender with so many of its flights gone.
func senderAfter(s impl.Sender, gone int) impl.Sender {
	s.Acked = flightEndOf(s.Flights[gone-1])
	s.Flights = s.Flights[gone:]
	return s
}

// Beside other open paths a window above its bound grows more slowly: just those are told to AckSub.
func TestHearConnAcksBesideOthers(t *testing.T) {
	slow := func(c *impl.Conn) {
		for i := range c.Subs {
			c.Subs[i].Control = impl.Control{Window: 16 + 8*int64(i), Bound: 8}
		}
	}
	for _, states := range [][]int64{{3}, {3, 3}, {3, 4}, {3, 1}, {3, 3, 3}, {3, 4, 3}, {4, 3, 3}, {4, 3, 1}} {
		c := with(connAt(0, pathsOf(0, states...)...), slow)
		for k, x := range c.Subs {
			if x.State != impl.SubOpen {
				continue
			}
			all := int64(0)
			for _, y := range c.Subs {
				if y.State == impl.SubOpen {
					all += y.Control.Window
				}
			}
			got := impl.HearConn(c, impl.Segment{Path: x.Path, From: 1, Ackd: true, Seq: 12, Ack: (x.Send.Start + x.Send.Next) % 65536, Opt: impl.OptMap}, 6).Conn.Subs[k].Control
			parts := 5 * 512 / all
			if want := (impl.Control{Window: x.Control.Window + parts/64, Bound: 8, Part: parts % 64}); got != want {
				t.Errorf("the sub %d of %v grows to %+v, want %+v", k, states, got, want)
			}
		}
	}
}

func TestHearConnLoads(t *testing.T) {
	const open = impl.SubOpen
	// In has 0 to 5, 8, 9 and 12; the catch begins at 7, and has seen 0 to 4, 8, 9 and 12.
	c := connAt(1, pathsOf(1, open)...)
	two := connAt(1, pathsOf(1, open, open)...)
	plain := func(c *impl.Conn) { c.Plain = true }
	load := func(place, opt, at int64, text string) impl.Segment {
		g := impl.Segment{Path: 1, Seq: (65536 + 7 + place) % 65536, Ack: 3, Opt: opt, Load: []byte(text)}
		if opt == impl.OptMap {
			g.A, g.B = 1000*at, sumOfLoad(at, g.Load)
		}
		return g
	}
	takes := func(in impl.Gather, next int64, spans ...impl.Span) func(c *impl.Conn) {
		return func(c *impl.Conn) { c.In, c.Subs[0].Catch = in, catchWith(7, next, spans...) }
	}
	both := func(turns ...func(c *impl.Conn)) func(c *impl.Conn) {
		return func(c *impl.Conn) {
			for _, turn := range turns {
				turn(c)
			}
		}
	}
	told := func(next, done int64) []impl.Segment {
		return []impl.Segment{{Path: 1, From: 1, Ackd: true, Seq: 5, Ack: 7 + next, Opt: impl.OptMap, A: done}}
	}
	bare := func(next int64) []impl.Segment {
		return []impl.Segment{{Path: 1, From: 1, Ackd: true, Seq: 5, Ack: 7 + next}}
	}
	refused := func(g impl.Segment) []impl.Segment {
		return []impl.Segment{{Path: 1, From: 1, Rst: true, Seq: g.Ack, Ack: g.Seq}}
	}
	wrong := func(g impl.Segment, b int64) impl.Segment {
		g.B = b
		return g
	}
	sum := sumOfLoad(6, []byte("gh"))
	ends := func(c impl.Conn, at int64) impl.Conn { return with(c, func(c *impl.Conn) { c.FinIn = at }) }
	checkRows(t, []hearingRow{
		{"the next bytes", c, load(5, impl.OptMap, 6, "gh"), takes(gatherWith("abcdefghij", piece(12, "m")), 7, span(8, 10), span(12, 13)), told(7, 10)},
		{"up to what was seen", c, load(5, impl.OptMap, 6, "ghi"), takes(gatherWith("abcdefghij", piece(12, "m")), 10, span(12, 13)), told(10, 10)},
		{"behind a gap", c, load(15, impl.OptMap, 20, "xy"), takes(gatherWith("abcdef", piece(8, "ij"), piece(12, "m"), piece(20, "xy")), 5, span(8, 10), span(12, 13), span(15, 17)), told(5, 6)},
		{"there already", c, load(8, impl.OptMap, 8, "IJ"), nil, told(5, 6)},
		{"seen, but not in", c, load(3, impl.OptMap, 6, "gh"), func(c *impl.Conn) { c.In = gatherWith("abcdefghij", piece(12, "m")) }, told(5, 10)},
		{"in, but not seen", c, load(5, impl.OptMap, 0, "ab"), takes(c.In, 7, span(8, 10), span(12, 13)), told(7, 6)},
		{"what is there stays", c, load(5, impl.OptMap, 4, "XYgh"), takes(gatherWith("abcdefghij", piece(12, "m")), 10, span(12, 13)), told(10, 10)},
		{"up to the last place", c, load(5, impl.OptMap, 398, "xy"), takes(gatherWith("abcdef", piece(8, "ij"), piece(12, "m"), piece(398, "xy")), 7, span(8, 10), span(12, 13)), told(7, 6)},
		{"behind the last place", c, load(5, impl.OptMap, 399, "xy"), nil, told(5, 6)},
		{"far behind", c, load(5, impl.OptMap, 999, "x"), nil, told(5, 6)},
		{"the sum is 1 more", c, wrong(load(5, impl.OptMap, 6, "gh"), sum+1), shutSub(0), refused(load(5, impl.OptMap, 6, "gh"))},
		{"the sum is 1 less", c, wrong(load(5, impl.OptMap, 6, "gh"), sum-1), shutSub(0), refused(load(5, impl.OptMap, 6, "gh"))},
		{"the sum is of another place", c, wrong(load(5, impl.OptMap, 6, "gh"), sumOfLoad(5, []byte("gh"))), shutSub(0), refused(load(5, impl.OptMap, 6, "gh"))},
		{"the sum is of another load", c, wrong(load(5, impl.OptMap, 6, "gh"), sumOfLoad(6, []byte("hg"))), shutSub(0), refused(load(5, impl.OptMap, 6, "gh"))},
		{"a wrong sum of what is there", c, wrong(load(0, impl.OptMap, 0, "a"), 0), shutSub(0), refused(load(0, impl.OptMap, 0, "a"))},
		{"a wrong sum, Plain", with(c, plain), wrong(load(6, impl.OptMap, 6, "gh"), 0), takes(gatherWith("abcdefghij", piece(12, "m")), 5, span(6, 10), span(12, 13)), bare(5)},
		{"no option, one path", c, load(6, impl.OptNone, 0, "gh"), both(plain, takes(gatherWith("abcdefghij", piece(12, "m")), 5, span(6, 10), span(12, 13))), bare(5)},
		{"another option, one path", c, load(6, impl.OptProof, 0, "gh"), both(plain, takes(gatherWith("abcdefghij", piece(12, "m")), 5, span(6, 10), span(12, 13))), bare(5)},
		{"no option, there already", c, load(2, impl.OptNone, 0, "cd"), plain, bare(5)},
		{"no option, cannot be put", c, load(399, impl.OptNone, 0, "xy"), plain, bare(5)},
		{"no option, two paths", two, load(6, impl.OptNone, 0, "gh"), shutSub(0), refused(load(6, impl.OptNone, 0, "gh"))},
		{"another option, two paths", two, load(6, impl.OptKey, 0, "gh"), shutSub(0), refused(load(6, impl.OptKey, 0, "gh"))},
		{"no option, the other path is closed", connAt(1, pathsOf(1, open, impl.SubClosed)...), load(6, impl.OptNone, 0, "gh"), shutSub(0), refused(load(6, impl.OptNone, 0, "gh"))},
		{"a map, two paths", two, load(5, impl.OptMap, 6, "gh"), takes(gatherWith("abcdefghij", piece(12, "m")), 7, span(8, 10), span(12, 13)), told(7, 10)},
		{"no place", c, load(-1, impl.OptMap, 6, "gh"), nil, told(5, 6)},
		{"no place, no option", c, load(-1, impl.OptNone, 0, "gh"), nil, told(5, 6)},
		{"no place, a wrong sum", c, wrong(load(-1, impl.OptMap, 6, "gh"), 0), nil, told(5, 6)},
		{"no place, two paths", two, load(-1, impl.OptNone, 0, "gh"), nil, told(5, 6)},
		{"up to the end", ends(c, 14), load(15, impl.OptMap, 12, "mn"), takes(gatherWith("abcdef", piece(8, "ij"), piece(12, "mn")), 5, span(8, 10), span(12, 13), span(15, 17)), told(5, 6)},
		{"above the end", ends(c, 13), load(15, impl.OptMap, 12, "mn"), nil, told(5, 6)},
		{"behind the end", ends(c, 13), load(15, impl.OptMap, 20, "x"), nil, told(5, 6)},
		{"above the end, no option", ends(c, 13), load(12, impl.OptNone, 0, "mn"), plain, bare(5)},
		{"above the end, there already in part", ends(c, 13), load(5, impl.OptMap, 9, "jklmn"), nil, told(5, 6)},
		{"an empty Load, a wrong sum", c, wrong(load(5, impl.OptMap, 6, ""), 1), nil, nil},
		{"an empty Load, two paths", two, load(5, impl.OptNone, 0, ""), nil, nil},
	})
}

// What cannot be put is not seen, and what cannot be seen is not put.
func TestHearConnLoadsBothOrNothing(t *testing.T) {
	pieces := with(connAt(1, pathsOf(0, impl.SubOpen)...), func(c *impl.Conn) { c.In, c.Given = combOf(40), 0 })
	spans := with(connAt(1, pathsOf(0, impl.SubOpen)...), func(c *impl.Conn) { c.Subs[0].Catch = spanComb(7, 0, 20, 1, 1) })
	last := with(connAt(1, pathsOf(0, impl.SubOpen)...), func(c *impl.Conn) { c.Subs[0].Catch = catchWith(7, 999999) })
	late := with(connAt(1, pathsOf(0, impl.SubOpen)...), func(c *impl.Conn) { c.Subs[0].Catch = catchWith(7, 999990, span(999992, 1000001)) })
	rows := []struct {
		what  string
		c     impl.Conn
		place int64
		at    int64
		load  string
		done  bool
	}{
		{"one piece too many", pieces, 5, 390, "x", false},
		{"into a piece", pieces, 5, 81, "x", false},
		{"a gap closed among 40 pieces", pieces, 5, 2, "x", true},
		{"one span too many", spans, 300, 20, "x", false},
		{"a gap closed among 20 spans", spans, 2, 20, "x", true},
		{"the last place", last, 999999, 20, "x", true},
		{"behind the last place", last, 999999, 20, "xy", false},
		{"up to a span that ends behind the last place", late, 999990, 20, "xy", false},
		{"ahead of a span that ends behind the last place", late, 999990, 20, "x", true},
	}
	for _, row := range rows {
		g := impl.Segment{Seq: leftOf(whole(7), whole(row.place)), Opt: impl.OptMap, A: 1000 * row.at, B: sumOfLoad(row.at, []byte(row.load)), Load: []byte(row.load)}
		got := impl.HearConn(row.c, g, 6)
		put, seen := !sameGather(got.Conn.In, row.c.In), !sameCatch(got.Conn.Subs[0].Catch, row.c.Subs[0].Catch)
		if got.Code != impl.OK || put != row.done || seen != row.done || connFaultModel(got.Conn) != impl.OK || len(got.Send) != 1 || got.Send[0].Rst {
			t.Errorf("%s: put %v, seen %v, want %v: %+v", row.what, put, seen, row.done, got)
		}
	}
}

// What was told ahead of a load that is refused stays: what came there, and that the path was proved.
func TestHearConnRefusedLoadsKeepWhatIsKnown(t *testing.T) {
	g := impl.Segment{Path: 1, From: 1, Ackd: true, Seq: 12, Ack: 3, End: 15, Opt: impl.OptMap, A: 6004, Load: []byte("gh")}
	c := connAt(0, pathsOf(1, impl.SubOpen)...)
	want := impl.ConnResult{
		Conn: with(c, func(c *impl.Conn) {
			c.Acked = 4
			c.Subs[0].Send, c.Subs[0].Control.Window = senderAfter(c.Subs[0].Send, 1), 19
			shutSub(0)(c)
		}),
		Send: []impl.Segment{{Path: 1, Rst: true, Seq: 3, Ack: 12}},
	}
	if got := impl.HearConn(c, g, 6); !sameConns(got, want) {
		t.Errorf("HearConn = %+v, want %+v", got, want)
	}
	if x := want.Conn.Subs[0]; x.Send.Next != 8 || want.Conn.FinIn != -1 {
		t.Errorf("the path that is closed is %+v, the end is %d", x, want.Conn.FinIn)
	}
}

func TestHearConnEnds(t *testing.T) {
	const open = impl.SubOpen
	// The last byte that is in lies at the place 12.
	c := connAt(1, pathsOf(1, open)...)
	empty := with(c, func(c *impl.Conn) { c.In, c.Given = impl.Gather{}, 0 })
	full := with(c, func(c *impl.Conn) { c.In = impl.Gather{Done: lettersOf(400)} })
	known := with(c, func(c *impl.Conn) { c.FinIn = 20 })
	plain := with(c, func(c *impl.Conn) { c.Plain = true })
	of := func(ackd bool, end int64) impl.Segment {
		return impl.Segment{Path: 1, Ackd: ackd, Seq: 12, End: end, Opt: impl.OptMap}
	}
	loaded := func(n int64, at int64, text string) impl.Segment {
		g := of(true, n)
		g.Load, g.A, g.B = []byte(text), 1000*at, sumOfLoad(at, []byte(text))
		return g
	}
	fin := func(n int64) func(c *impl.Conn) { return func(c *impl.Conn) { c.FinIn = n } }
	told := func(ack int64) []impl.Segment {
		return []impl.Segment{{Path: 1, From: 1, Ackd: true, Seq: 5, Ack: 12, Opt: impl.OptMap, A: ack}}
	}
	checkRows(t, []hearingRow{
		{"where the last byte ends", c, of(true, 14), fin(13), nil},
		{"at the last byte", c, of(true, 13), nil, nil},
		{"behind the last byte", c, of(true, 15), fin(14), nil},
		{"at the last place", c, of(true, 401), fin(400), nil},
		{"behind the last place", c, of(true, 402), nil, nil},
		{"far behind", c, of(true, 1000), nil, nil},
		{"none", c, of(true, 0), nil, nil},
		{"ahead of all", c, of(true, 1), nil, nil},
		{"within a gap", c, of(true, 8), nil, nil},
		{"a stream of no bytes", empty, of(true, 1), fin(0), nil},
		{"all places in", full, of(true, 401), fin(400), nil},
		{"all places in, one place less", full, of(true, 400), nil, nil},
		{"known already", known, of(true, 31), nil, nil},
		{"known already, below", known, of(true, 15), nil, nil},
		{"not Ackd", c, of(false, 14), fin(13), told(6)},
		{"not Ackd, at the last byte", c, of(false, 13), nil, told(6)},
		{"not Ackd, far behind", c, of(false, 1000), nil, told(6)},
		{"not Ackd, known already", known, of(false, 21), nil, told(6)},
		{"not Ackd, none", c, of(false, 0), nil, nil},
		{"not Ackd, all is in then", empty, of(false, 1), fin(0), told(1)},
		{"not Ackd, Plain", plain, of(false, 14), fin(13), []impl.Segment{{Path: 1, From: 1, Ackd: true, Seq: 5, Ack: 12}}},
		{"with a Load that ends there", c, loaded(17, 14, "op"), func(c *impl.Conn) {
			c.FinIn, c.In, c.Subs[0].Catch = 16, gatherWith("abcdef", piece(8, "ij"), piece(12, "m"), piece(14, "op")), catchWith(7, 7, span(8, 10), span(12, 13))
		}, []impl.Segment{{Path: 1, From: 1, Ackd: true, Seq: 5, Ack: 14, Opt: impl.OptMap, A: 6}}},
		{"with a Load that ends above", c, loaded(16, 14, "op"), func(c *impl.Conn) {
			c.In, c.Subs[0].Catch = gatherWith("abcdef", piece(8, "ij"), piece(12, "m"), piece(14, "op")), catchWith(7, 7, span(8, 10), span(12, 13))
		}, []impl.Segment{{Path: 1, From: 1, Ackd: true, Seq: 5, Ack: 14, Opt: impl.OptMap, A: 6}}},
	})
}

func TestAnswerSegment(t *testing.T) {
	const asked, answered, open, closed = impl.SubAsked, impl.SubAnswered, impl.SubOpen, impl.SubClosed
	keyed := impl.Segment{Path: 1, From: 1, Syn: true, Ackd: true, Seq: 65531, Ack: 7, Opt: impl.OptKey, A: 5}
	bare := impl.Segment{Path: 1, From: 1, Syn: true, Ackd: true, Seq: 65531, Ack: 7}
	proof := impl.Segment{Path: 2, From: 1, Syn: true, Ackd: true, Seq: 65532, Ack: 7, Opt: impl.OptProof, A: mixModel(5, 7, 4), B: 3}
	unknown := proof
	unknown.A = mixModel(5, 0, 4)
	rows := []struct {
		what string
		c    impl.Conn
		path int64
		want impl.SegmentResult
	}{
		{"answered", connAt(1, pathsOf(1, answered)...), 1, impl.SegmentResult{Segment: keyed}},
		{"open", connAt(1, pathsOf(1, open)...), 1, impl.SegmentResult{Segment: keyed}},
		{"closed", connAt(1, pathsOf(1, closed)...), 1, impl.SegmentResult{Segment: keyed}},
		{"ended", with(connAt(1, pathsOf(1, open)...), func(c *impl.Conn) { c.Fin = true }), 1, impl.SegmentResult{Segment: keyed}},
		{"Plain", with(connAt(1, pathsOf(1, answered)...), func(c *impl.Conn) { c.Plain = true }), 1, impl.SegmentResult{Segment: bare}},
		{"a join", connAt(1, pathsOf(1, open, answered)...), 2, impl.SegmentResult{Segment: proof}},
		{"a join, Peer not known", with(connAt(1, pathsOf(1, open, answered)...), func(c *impl.Conn) { c.Peer = 0 }), 2, impl.SegmentResult{Segment: unknown}},
		{"no sub", connAt(1, pathsOf(1, open)...), 0, impl.SegmentResult{Code: impl.ErrNone}},
		{"path -1", connAt(1, pathsOf(1, open)...), -1, impl.SegmentResult{Code: impl.ErrNone}},
		{"path 3", connAt(1, pathsOf(1, open)...), 3, impl.SegmentResult{Code: impl.ErrNone}},
		{"no subs", connAt(1), 1, impl.SegmentResult{Code: impl.ErrNone}},
		{"asked at the side 0", connAt(0, pathsOf(1, asked)...), 1, impl.SegmentResult{Segment: impl.Segment{Path: 1, Syn: true, Ackd: true, Seq: 65531, Ack: 7, Opt: impl.OptKey, A: 5}}},
	}
	for _, row := range rows {
		if got := impl.AnswerSegment(row.c, row.path); !sameResult(got, row.want) {
			t.Errorf("%s: AnswerSegment = %+v, want %+v", row.what, got, row.want)
		}
	}
}

func TestProveSegment(t *testing.T) {
	const asked, answered, open, closed = impl.SubAsked, impl.SubAnswered, impl.SubOpen, impl.SubClosed
	proof := impl.Segment{Path: 2, Ackd: true, Seq: (65532 + 15) % 65536, Ack: 12, Opt: impl.OptProof, A: mixModel(5, 7, 4)}
	early := proof
	early.Seq = 65532
	ended := proof
	ended.End = 6
	rows := []struct {
		what string
		c    impl.Conn
		path int64
		want impl.SegmentResult
	}{
		{"open", connAt(0, pathsOf(1, open, open)...), 2, impl.SegmentResult{Segment: proof}},
		{"ended", with(connAt(0, pathsOf(1, open, open)...), func(c *impl.Conn) { c.Fin = true }), 2, impl.SegmentResult{Segment: ended}},
		{"asked", connAt(0, pathsOf(1, open, asked)...), 2, impl.SegmentResult{Segment: early}},
		{"closed", connAt(0, pathsOf(1, open, closed)...), 2, impl.SegmentResult{Segment: early}},
		{"no join", connAt(0, pathsOf(1, open, open)...), 1, impl.SegmentResult{Code: impl.ErrForm}},
		{"no join, Plain", with(connAt(0, pathsOf(1, open)...), func(c *impl.Conn) { c.Plain = true }), 1, impl.SegmentResult{Code: impl.ErrForm}},
		{"no join, closed", connAt(0, pathsOf(1, closed)...), 1, impl.SegmentResult{Code: impl.ErrForm}},
		{"no sub", connAt(0, pathsOf(1, open, open)...), 0, impl.SegmentResult{Code: impl.ErrNone}},
		{"path -1", connAt(0, pathsOf(1, open, open)...), -1, impl.SegmentResult{Code: impl.ErrNone}},
		{"path 3", connAt(0, pathsOf(1, open, open)...), 3, impl.SegmentResult{Code: impl.ErrNone}},
		{"no subs", connAt(0), 0, impl.SegmentResult{Code: impl.ErrNone}},
		{"answered at the side 1", connAt(1, pathsOf(1, answered, answered)...), 2, impl.SegmentResult{Segment: impl.Segment{Path: 2, From: 1, Ackd: true, Seq: 65532, Ack: 12, Opt: impl.OptProof, A: mixModel(5, 7, 4)}}},
	}
	for _, row := range rows {
		if got := impl.ProveSegment(row.c, row.path); !sameResult(got, row.want) {
			t.Errorf("%s: ProveSegment = %+v, want %+v", row.what, got, row.want)
		}
	}
}

func TestOthersOf(t *testing.T) {
	windows := func(c *impl.Conn) {
		for i := range c.Subs {
			c.Subs[i].Control.Window = 10 + int64(i)
		}
	}
	three := with(connAt(1, pathsOf(2, impl.SubOpen, impl.SubOpen, impl.SubOpen)...), windows)
	some := with(connAt(1, pathsOf(2, impl.SubOpen, impl.SubAnswered, impl.SubOpen)...), windows)
	closed := with(connAt(0, pathsOf(0, impl.SubClosed, impl.SubAsked, impl.SubOpen)...), windows)
	rows := []struct {
		c    impl.Conn
		path int64
		want []int64
	}{
		{three, 2, []int64{11, 12}}, {three, 0, []int64{10, 12}}, {three, 1, []int64{10, 11}}, {three, -1, []int64{10, 11, 12}}, {three, 3, []int64{10, 11, 12}}, {three, math.MinInt64, []int64{10, 11, 12}}, {three, math.MaxInt64, []int64{10, 11, 12}},
		{some, 2, []int64{12}}, {some, 0, []int64{10, 12}}, {some, 1, []int64{10}},
		{closed, 0, []int64{12}}, {closed, 1, []int64{12}}, {closed, 2, nil}, {connAt(0), 0, nil},
	}
	for _, row := range rows {
		if got := impl.OthersOf(row.c, row.path); !sameInts(got, impl.IntsResult{List: row.want}) {
			t.Errorf("OthersOf(%+v, %d) = %+v, want %v", row.c, row.path, got, row.want)
		}
	}
}

func TestWhereData(t *testing.T) {
	const open, closed = impl.SubOpen, impl.SubClosed
	c := connAt(1, pathsOf(1, open)...)
	two := connAt(1, pathsOf(1, open, closed)...)
	plain := with(c, func(c *impl.Conn) { c.Plain = true })
	g := func(place, opt, a, b int64, load string) impl.Segment {
		return impl.Segment{Path: 1, Seq: (65536 + 7 + place) % 65536, Opt: opt, A: a, B: b, Load: []byte(load)}
	}
	sum := sumOfLoad(20, []byte("xy"))
	rows := []struct {
		what string
		c    impl.Conn
		g    impl.Segment
		want impl.IntResult
	}{
		{"a map", c, g(5, impl.OptMap, 20000, sum, "xy"), impl.IntResult{Value: 20}},
		{"a map, beside what is known", c, g(5, impl.OptMap, 20999, sum, "xy"), impl.IntResult{Value: 20}},
		{"a map, two subs", two, g(5, impl.OptMap, 20000, sum, "xy"), impl.IntResult{Value: 20}},
		{"a map, the sum is 1 more", c, g(5, impl.OptMap, 20000, sum+1, "xy"), impl.IntResult{Code: impl.ErrSum}},
		{"a map, no sum", c, g(5, impl.OptMap, 20000, 0, "xy"), impl.IntResult{Code: impl.ErrSum}},
		{"a map, another load", c, g(5, impl.OptMap, 20000, sum, "xz"), impl.IntResult{Code: impl.ErrSum}},
		{"a map, another place", c, g(5, impl.OptMap, 21000, sum, "xy"), impl.IntResult{Code: impl.ErrSum}},
		{"a map, no load", c, g(5, impl.OptMap, 6, 0, ""), impl.IntResult{Code: impl.ErrSum}},
		{"a map, no load, its sum", c, g(5, impl.OptMap, 6, sumOfLoad(0, nil), ""), impl.IntResult{}},
		{"a map, the last place", c, g(5, impl.OptMap, 1000000, sumOfLoad(1000, []byte("x")), "x"), impl.IntResult{Value: 1000}},
		{"Plain, a map", plain, g(5, impl.OptMap, 20000, sum, "xy"), impl.IntResult{Value: 5}},
		{"Plain, a wrong sum", plain, g(5, impl.OptMap, 20000, 1, "xy"), impl.IntResult{Value: 5}},
		{"Plain, no option", plain, g(6, impl.OptNone, 0, 0, "xy"), impl.IntResult{Value: 6}},
		{"no option, one sub", c, g(6, impl.OptNone, 0, 0, "xy"), impl.IntResult{Value: 6}},
		{"no option, at the first place", c, g(0, impl.OptNone, 0, 0, "xy"), impl.IntResult{}},
		{"no option, far ahead", c, g(5+32767, impl.OptNone, 0, 0, "xy"), impl.IntResult{Value: 5 + 32767}},
		{"no option, further ahead", c, g(5+32768, impl.OptNone, 0, 0, "xy"), impl.IntResult{Code: impl.ErrNone}},
		{"another option, one sub", c, g(6, impl.OptProof, 20000, sum, "xy"), impl.IntResult{Value: 6}},
		{"no option, two subs", two, g(6, impl.OptNone, 0, 0, "xy"), impl.IntResult{Code: impl.ErrState}},
		{"another option, two subs", two, g(6, impl.OptKey, 20000, sum, "xy"), impl.IntResult{Code: impl.ErrState}},
		{"no place", c, g(-1, impl.OptNone, 0, 0, "xy"), impl.IntResult{Code: impl.ErrNone}},
		{"no place, a map", c, g(-1, impl.OptMap, 20000, sum, "xy"), impl.IntResult{Code: impl.ErrNone}},
		{"no place, ahead of a wrong sum", c, g(-1, impl.OptMap, 20000, 1, "xy"), impl.IntResult{Code: impl.ErrNone}},
		{"no place, ahead of two subs", two, g(-1, impl.OptNone, 0, 0, "xy"), impl.IntResult{Code: impl.ErrNone}},
		{"no place, Plain", plain, g(-1, impl.OptNone, 0, 0, "xy"), impl.IntResult{Code: impl.ErrNone}},
		{"no sub", connAt(1, pathsOf(0, open)...), g(5, impl.OptMap, 20000, sum, "xy"), impl.IntResult{Code: impl.ErrNone}},
		{"no subs", connAt(1), g(5, impl.OptMap, 20000, 1, "xy"), impl.IntResult{Code: impl.ErrNone}},
		{"closed", connAt(1, pathsOf(1, closed)...), g(5, impl.OptMap, 20000, sum, "xy"), impl.IntResult{Value: 20}},
		{"its own", connAt(0, pathsOf(1, open)...), g(5, impl.OptMap, 20000, sum, "xy"), impl.IntResult{Value: 20}},
		{"too long a load", c, g(5, impl.OptMap, 20000, sum, "123456789"), impl.IntResult{Code: impl.ErrMany}},
		{"too long a load, ahead of no sub", connAt(1), g(5, impl.OptMap, 20000, sum, "123456789"), impl.IntResult{Code: impl.ErrMany}},
		{"the conn ahead of the segment", with(c, func(c *impl.Conn) { c.Side = 2 }), g(5, impl.OptMap, 20000, sum, "123456789"), impl.IntResult{Code: impl.ErrRange}},
	}
	for _, row := range rows {
		if got := impl.WhereData(row.c, row.g); got != row.want {
			t.Errorf("%s: WhereData = %+v, want %+v", row.what, got, row.want)
		}
	}
}

func TestHearingToolsAgainstModels(t *testing.T) {
	draw := rand.New(rand.NewSource(290))
	for _, c := range slices.Concat(rightConns(), wrongConns(), drawnConns(150), hearingConns()) {
		for _, path := range aroundOf(0, 2) {
			if got, want := impl.AnswerSegment(c, path), answerModel(c, path); !sameResult(got, want) {
				t.Fatalf("AnswerSegment(%+v, %d) = %+v, want %+v", c, path, got, want)
			}
			if got, want := impl.ProveSegment(c, path), proveModel(c, path); !sameResult(got, want) {
				t.Fatalf("ProveSegment(%+v, %d) = %+v, want %+v", c, path, got, want)
			}
			if got, want := impl.OthersOf(c, path), othersModel(c, path); !sameInts(got, want) {
				t.Fatalf("OthersOf(%+v, %d) = %+v, want %+v", c, path, got, want)
			}
		}
		if connFaultModel(c) != impl.OK {
			continue
		}
		for range 20 {
			g := drawnAimed(draw, c)
			if got, want := impl.WhereData(c, g), whereModel(c, g); got != want {
				t.Fatalf("WhereData(%+v, %+v) = %+v, want %+v", c, g, got, want)
			}
		}
	}
	for _, c := range rightConns() {
		for path := range int64(3) {
			for _, told := range []impl.SegmentResult{impl.AnswerSegment(c, path), impl.ProveSegment(c, path)} {
				if told.Code == impl.OK && (faultModel(told.Segment) != impl.OK || told.Segment.Path != path || told.Segment.From != c.Side || !bytes.Equal(told.Segment.Load, nil)) {
					t.Fatalf("of the path %d of %+v is told %+v", path, c, told)
				}
			}
		}
	}
}
