package tests

import (
	"bytes"
	"math"
	"math/rand"
	"slices"
	"testing"

	"loop.example/g00230/impl"
)

// connFaultModel asks the codes one by one, and where the stream ends place by place.
func connFaultModel(c impl.Conn) int64 {
	wrote := int64(len(c.Wrote))
	switch {
	case c.Side != 0 && c.Side != 1, !isKey(c.Key), c.Peer != 0 && !isKey(c.Peer):
		return impl.ErrRange
	case wrote >= 301:
		return impl.ErrMany
	case c.Acked < 0, c.Acked > wrote:
		return impl.ErrRange
	case c.FinDone && !c.Fin, c.FinDone && c.Acked < wrote:
		return impl.ErrForm
	}
	if fault := gatherFaultModel(c.In); fault != impl.OK {
		return fault
	}
	if c.FinIn <= -2 || c.FinIn >= 401 || c.Given < 0 || c.Given > int64(len(c.In.Done)) {
		return impl.ErrRange
	}
	row := rowOf(c.In)
	for place := c.FinIn; c.FinIn >= 0 && place < 400; place++ {
		if row.has(place) {
			return impl.ErrForm
		}
	}
	return subsFaultModel(c)
}

func subsFaultModel(c impl.Conn) int64 {
	taken := map[int64]bool{}
	joins := 0
	for _, x := range c.Subs {
		if fault := subFaultModel(x); fault != impl.OK {
			return fault
		}
		if taken[x.Path] {
			return impl.ErrTaken
		}
		if len(taken) == 0 && x.Join || len(taken) > 0 && !x.Join {
			return impl.ErrForm
		}
		taken[x.Path] = true
		if x.Join {
			joins++
		}
	}
	if joins > 0 && c.Plain || joins > 0 && c.Subs[0].State == 1 || joins == 0 && c.Free {
		return impl.ErrForm
	}
	for _, x := range c.Subs {
		if c.Side == 0 && x.State == 2 || c.Side == 1 && x.State == 1 {
			return impl.ErrForm
		}
	}
	return impl.OK
}

func newConnModel(side int64, key int64) impl.ConnResult {
	if side != 0 && side != 1 || !isKey(key) {
		return impl.ConnResult{Code: impl.ErrRange}
	}
	return impl.ConnResult{Conn: impl.Conn{Side: side, Key: key, FinIn: -1}}
}

func writeModel(c impl.Conn, data []byte) impl.ConnResult {
	if fault := connFaultModel(c); fault != impl.OK {
		return impl.ConnResult{Code: fault}
	}
	all := slices.Concat(c.Wrote, data)
	switch {
	case c.Fin:
		return impl.ConnResult{Code: impl.ErrState}
	case len(all) >= 301:
		return impl.ConnResult{Code: impl.ErrMany}
	}
	written := cloneConn(c)
	written.Wrote = all
	return impl.ConnResult{Conn: written}
}

func closeConnModel(c impl.Conn) impl.ConnResult {
	if fault := connFaultModel(c); fault != impl.OK {
		return impl.ConnResult{Code: fault}
	}
	if c.Fin {
		return impl.ConnResult{Code: impl.ErrState}
	}
	closed := cloneConn(c)
	closed.Fin = true
	return impl.ConnResult{Conn: closed}
}

// readModel gives byte by byte.
func readModel(c impl.Conn, n int64) impl.ConnResult {
	if fault := connFaultModel(c); fault != impl.OK {
		return impl.ConnResult{Code: fault}
	}
	if n < 0 || n > 1000 {
		return impl.ConnResult{Code: impl.ErrRange}
	}
	read := impl.ConnResult{Conn: cloneConn(c)}
	for i := int64(0); i < n && read.Conn.Given < int64(len(c.In.Done)); i++ {
		read.Data = append(read.Data, c.In.Done[read.Conn.Given])
		read.Conn.Given++
	}
	read.End = read.Conn.Given == c.FinIn
	return read
}

func dialModel(c impl.Conn, path int64, nonce int64, now int64) impl.ConnResult {
	if fault := connFaultModel(c); fault != impl.OK {
		return impl.ConnResult{Code: fault}
	}
	join := len(c.Subs) > 0
	switch {
	case path < 0, path > 2, !isNonce(nonce), now < 0, now > 1000000:
		return impl.ConnResult{Code: impl.ErrRange}
	case c.Side == 1, join && c.Plain, join && c.Peer == 0, join && c.Subs[0].State != 3:
		return impl.ConnResult{Code: impl.ErrState}
	case subOnModel(c, path).Code == impl.OK:
		return impl.ConnResult{Code: impl.ErrTaken}
	}
	start := mixModel(c.Key, path+2) % 65536
	g := impl.Segment{Path: path, Syn: true, Seq: start, Opt: 1, A: c.Key}
	if join {
		g.Opt, g.A, g.B = 2, mixModel(c.Peer, 1), nonce
	}
	dialed := cloneConn(c)
	dialed.Subs = append(dialed.Subs, newSubModel(path, start, join, nonce, now).Sub)
	return impl.ConnResult{Conn: dialed, Send: []impl.Segment{g}}
}

// subOnModel looks from the last sub on: no two have one path.
func subOnModel(c impl.Conn, path int64) impl.IntResult {
	if fault := connFaultModel(c); fault != impl.OK {
		return impl.IntResult{Code: fault}
	}
	for i := len(c.Subs) - 1; i >= 0; i-- {
		if c.Subs[i].Path == path {
			return impl.IntResult{Value: int64(i)}
		}
	}
	return impl.IntResult{Code: impl.ErrNone}
}

func dataAckModel(c impl.Conn) impl.IntResult {
	if fault := connFaultModel(c); fault != impl.OK {
		return impl.IntResult{Code: fault}
	}
	ack := int64(0)
	for range c.In.Done {
		ack++
	}
	if c.FinIn >= 0 && c.FinIn == ack {
		ack++
	}
	return impl.IntResult{Value: ack}
}

func tellModel(c impl.Conn, path int64) impl.SegmentResult {
	on := subOnModel(c, path)
	if on.Code != impl.OK {
		return impl.SegmentResult{Code: on.Code}
	}
	x := c.Subs[on.Value]
	if x.State != 3 {
		return impl.SegmentResult{Code: impl.ErrState}
	}
	g := impl.Segment{Path: path, From: c.Side, Ackd: true, Seq: (x.Send.Start + x.Send.Next) % 65536, Ack: (x.Catch.Start + x.Catch.Next) % 65536}
	if c.Fin {
		g.End = int64(len(c.Wrote) + 1)
	}
	if !c.Plain {
		g.Opt, g.A = 4, dataAckModel(c).Value
	}
	return impl.SegmentResult{Segment: g}
}

func sameConn(a impl.Conn, b impl.Conn) bool {
	return a.Side == b.Side && a.Key == b.Key && a.Peer == b.Peer && a.Plain == b.Plain && a.Free == b.Free &&
		bytes.Equal(a.Wrote, b.Wrote) && a.Fin == b.Fin && a.Acked == b.Acked && a.FinDone == b.FinDone &&
		sameGather(a.In, b.In) && a.FinIn == b.FinIn && a.Given == b.Given && slices.EqualFunc(a.Subs, b.Subs, sameSub)
}

func sameConns(a impl.ConnResult, b impl.ConnResult) bool {
	return a.Code == b.Code && sameConn(a.Conn, b.Conn) && slices.EqualFunc(a.Send, b.Send, sameFields) && bytes.Equal(a.Data, b.Data) && a.End == b.End
}

func cloneGather(g impl.Gather) impl.Gather {
	g.Done, g.Pieces = slices.Clone(g.Done), slices.Clone(g.Pieces)
	for i := range g.Pieces {
		g.Pieces[i].Data = slices.Clone(g.Pieces[i].Data)
	}
	return g
}

func cloneConn(c impl.Conn) impl.Conn {
	c.Wrote, c.In, c.Subs = slices.Clone(c.Wrote), cloneGather(c.In), slices.Clone(c.Subs)
	for i := range c.Subs {
		c.Subs[i] = cloneSub(c.Subs[i])
	}
	return c
}

func cloneConns(r impl.ConnResult) impl.ConnResult {
	r.Conn, r.Send, r.Data = cloneConn(r.Conn), slices.Clone(r.Send), slices.Clone(r.Data)
	for i := range r.Send {
		r.Send[i].Load = slices.Clone(r.Send[i].Load)
	}
	return r
}

// pathOf is a sub without a fault in that state; one that is open has something on its way, if it may.
func pathOf(path int64, state int64, join bool) impl.Sub {
	x := subIn(state, impl.Sender{Start: 65530 + path})
	if state == impl.SubOpen {
		x.Send = senderWith(65530+path, 5*path, flight(4, "abc", 2, 1), flight(7, "de", 3, 4))
	}
	x.Path, x.Join = path, join
	return x
}

// pathsOf lays the states over the paths, from that path on; the first one is no Join.
func pathsOf(first int64, states ...int64) (out []impl.Sub) {
	for i, state := range states {
		out = append(out, pathOf((first+int64(i))%3, state, i > 0))
	}
	return out
}

// connAt has something of everything: it wrote, it was heard in part, and bytes came in.
func connAt(side int64, subs ...impl.Sub) impl.Conn {
	return impl.Conn{
		Side: side, Key: 5, Peer: 7, Wrote: []byte("hello"), Acked: 2,
		In: gatherWith("abcdef", piece(8, "ij"), piece(12, "m")), FinIn: -1, Given: 2, Subs: subs,
	}
}

// rightPaths are the lists of subs that a conn of that side may have, told whether it may be Plain and Free then.
func rightPaths(side int64, tell func(subs []impl.Sub, mayBePlain bool, mayBeFree bool)) {
	every := []int64{impl.SubOpen, impl.SubClosed, impl.SubAnswered}
	first := every
	if side == 0 {
		every = []int64{impl.SubOpen, impl.SubClosed, impl.SubAsked}
		first = every[:2]
	}
	tell(nil, true, false)
	tell([]impl.Sub{}, true, false)
	for path := range int64(3) {
		for _, a := range every {
			tell(pathsOf(path, a), true, false)
		}
		for _, a := range first {
			for _, b := range every {
				tell(pathsOf(path, a, b), false, true)
				for _, c := range every {
					tell(pathsOf(path, a, b, c), false, true)
				}
			}
		}
	}
}

// rightIns are what may have come in, each with ends and with how much may be given.
func rightIns(tell func(g impl.Gather, finIn int64, given int64)) {
	for _, g := range slices.Concat(rightGathers(), drawnGathers(10)) {
		row, reach := rowOf(g), int64(0)
		for place := range int64(400) {
			if row.has(place) {
				reach = place + 1
			}
		}
		done := int64(len(g.Done))
		for _, finIn := range []int64{-1, reach, min(reach+1, 400), 400} {
			for _, given := range []int64{0, done / 2, done} {
				tell(g, finIn, given)
			}
		}
	}
}

// rightConns are without a fault: each list of subs that may be, and each number at its bounds.
func rightConns() (out []impl.Conn) {
	keys, peers := []int64{5, 1, 999999}, []int64{0, 7, 1, 999999, 0}
	wrotes := [][]byte{lettersOf(5), nil, {}, lettersOf(299), lettersOf(300), lettersOf(1), {0}}
	vary := func(c impl.Conn) impl.Conn {
		n := len(out)
		c.Key, c.Peer, c.Wrote = keys[n%3], peers[n%5], wrotes[n%7]
		c.Acked = []int64{0, int64(len(c.Wrote)), int64(len(c.Wrote)) / 2, int64(len(c.Wrote))}[n%4]
		c.Fin = n%2 == 0
		c.FinDone = c.Fin && n%3 == 0 && c.Acked == int64(len(c.Wrote))
		return c
	}
	for side := range int64(2) {
		rightPaths(side, func(subs []impl.Sub, mayBePlain bool, mayBeFree bool) {
			out = append(out, vary(connAt(side, subs...)))
			if mayBePlain || mayBeFree {
				c := vary(connAt(side, subs...))
				c.Plain, c.Free = mayBePlain, mayBeFree
				out = append(out, c)
			}
		})
		rightIns(func(g impl.Gather, finIn int64, given int64) {
			c := vary(connAt(side, pathsOf(given%3, impl.SubOpen)...))
			c.In, c.FinIn, c.Given = g, finIn, given
			out = append(out, c)
		})
	}
	for i, x := range rightSubs() {
		c := connAt(int64(i%2), x)
		c.Subs[0].Join = false
		if connFaultModel(c) != impl.OK {
			c.Side = 1 - c.Side
		}
		out = append(out, vary(c))
	}
	return out
}

// drawnConns are without a fault, drawn from a seed that is always the same.
func drawnConns(count int) (out []impl.Conn) {
	draw := rand.New(rand.NewSource(26))
	subs, gathers := drawnSubs(3*count), drawnGathers(count)
	for i := range count {
		c := impl.Conn{Side: draw.Int63n(2), Key: 1 + draw.Int63n(999999), Peer: draw.Int63n(1000000), Wrote: make([]byte, draw.Intn(301)), In: gathers[i], FinIn: -1}
		draw.Read(c.Wrote)
		c.Acked, c.Given = draw.Int63n(int64(len(c.Wrote))+1), draw.Int63n(int64(len(c.In.Done))+1)
		if draw.Intn(2) == 0 {
			c.Fin = true
			if draw.Intn(2) == 0 {
				c.Acked, c.FinDone = int64(len(c.Wrote)), true
			}
		}
		if draw.Intn(2) == 0 && len(c.In.Pieces) == 0 {
			c.FinIn = int64(len(c.In.Done))
		} else if draw.Intn(2) == 0 {
			c.FinIn = 400
		}
		for k, path := range draw.Perm(3)[:draw.Intn(4)] {
			x := subs[3*i+k]
			x.Path, x.Join = int64(path), k > 0
			c.Subs = append(c.Subs, x)
		}
		c.Plain, c.Free = len(c.Subs) < 2 && draw.Intn(2) == 0, len(c.Subs) > 1 && draw.Intn(2) == 0
		out = append(out, c)
	}
	return out
}

type connTurn func(c impl.Conn) []impl.Conn

func connNumbers(of func(c *impl.Conn) *int64, list ...int64) connTurn {
	return func(c impl.Conn) (out []impl.Conn) {
		for _, n := range aroundOf(list...) {
			*of(&c) = n
			out = append(out, c)
		}
		return out
	}
}

// connTurns set each number of a conn at and beside its bounds, each flag both ways, and give it other lists, with and without a fault.
func connTurns() []connTurn {
	return []connTurn{
		connNumbers(func(c *impl.Conn) *int64 { return &c.Side }, 0, 1),
		connNumbers(func(c *impl.Conn) *int64 { return &c.Key }, 0, 999999),
		connNumbers(func(c *impl.Conn) *int64 { return &c.Peer }, 0, 999999),
		turnFlags, turnWrote, turnIn, turnSubs,
		connNumbers(func(c *impl.Conn) *int64 { return &c.Acked }, 0, 5, 300),
		connNumbers(func(c *impl.Conn) *int64 { return &c.FinIn }, -1, 6, 13, 400),
		connNumbers(func(c *impl.Conn) *int64 { return &c.Given }, 0, 6, 400),
	}
}

func turnFlags(c impl.Conn) (out []impl.Conn) {
	for n := range 16 {
		c.Plain, c.Free, c.Fin, c.FinDone = n&1 != 0, n&2 != 0, n&4 != 0, n&8 != 0
		out = append(out, c)
	}
	return out
}

func turnWrote(c impl.Conn) (out []impl.Conn) {
	for _, wrote := range [][]byte{nil, {}, lettersOf(1), lettersOf(2), lettersOf(4), lettersOf(299), lettersOf(300), lettersOf(301), lettersOf(5000)} {
		c.Wrote = wrote
		out = append(out, c)
	}
	return out
}

func turnIn(c impl.Conn) (out []impl.Conn) {
	wrong := []impl.Gather{{Done: lettersOf(401)}, combOf(41), gatherWith("abc", piece(3, "x")), gatherWith("", piece(400, "x")), gatherWith("", piece(4, "")), gatherWith("", piece(math.MaxInt64, "x"))}
	for _, g := range append(rightGathers(), wrong...) {
		c.In = g
		out = append(out, c)
	}
	return out
}

func turnSubs(c impl.Conn) (out []impl.Conn) {
	for _, subs := range append(everyPaths(), wrongPaths()...) {
		c.Subs = subs
		out = append(out, c)
	}
	return out
}

// everyPaths are lists of subs that have no fault of their own; whether a conn may have them its side and its flags tell.
func everyPaths() (out [][]impl.Sub) {
	out = append(out, nil, []impl.Sub{})
	for _, a := range subStates() {
		out = append(out, pathsOf(0, a), pathsOf(2, a))
		for _, b := range subStates() {
			out = append(out, pathsOf(1, a, b), pathsOf(0, a, b, impl.SubOpen), pathsOf(2, impl.SubOpen, a, b))
		}
	}
	return out
}

// wrongPaths have each a fault that no side and no flag mends; many have several, at one sub or at several of them.
func wrongPaths() (out [][]impl.Sub) {
	open := func(path int64, join bool) impl.Sub { return pathOf(path, impl.SubOpen, join) }
	a, b, c := open(0, false), open(1, true), open(2, true)
	turned := func(x impl.Sub, turn func(x *impl.Sub)) impl.Sub {
		turn(&x)
		return x
	}
	faults := []func(x *impl.Sub){
		func(x *impl.Sub) { x.Path = 3 },
		func(x *impl.Sub) { x.State = 0 },
		func(x *impl.Sub) { x.Send = fullSender(0, 0, 13, 1) },
		func(x *impl.Sub) { x.Catch = spanComb(0, 0, 21, 1, 1) },
		func(x *impl.Sub) { x.Control.Window = 7 },
		func(x *impl.Sub) { x.State = impl.SubClosed },
		func(x *impl.Sub) { x.State = impl.SubAsked },
		func(x *impl.Sub) { x.Path = 0; x.Join = true },
		func(x *impl.Sub) { x.Path = 1; x.Join = true },
		func(x *impl.Sub) { x.Join = !x.Join },
	}
	for _, one := range faults {
		out = append(out, []impl.Sub{turned(a, one)}, []impl.Sub{turned(a, one), b}, []impl.Sub{a, turned(b, one)}, []impl.Sub{a, turned(c, one), b}, []impl.Sub{a, b, turned(c, one)}, []impl.Sub{a, b, c, turned(a, one)})
		for _, two := range faults {
			out = append(out, []impl.Sub{turned(a, one), turned(b, two), c}, []impl.Sub{a, turned(b, one), turned(c, two)}, []impl.Sub{turned(a, one), b, turned(c, two)}, []impl.Sub{a, turned(turned(b, one), two)})
		}
	}
	out = append(out, []impl.Sub{a, b, c, a}, []impl.Sub{a, b, c, open(0, true)}, []impl.Sub{{}}, make([]impl.Sub, 4), []impl.Sub{a, a}, []impl.Sub{b, a}, []impl.Sub{b, c}, []impl.Sub{a, open(1, false)})
	return slices.DeleteFunc(out, func(subs []impl.Sub) bool {
		return connFaultModel(connAt(0, subs...)) == impl.OK || connFaultModel(connAt(1, subs...)) == impl.OK
	})
}

// turnedConns tells each conn with one thing turned, and with each two; most have a fault, many have several.
func turnedConns(tell func(c impl.Conn)) {
	all := connTurns()
	free := connAt(1, pathsOf(1, impl.SubOpen, impl.SubOpen, impl.SubAnswered)...)
	free.Free = true
	for _, c := range []impl.Conn{
		{Key: 5, FinIn: -1}, connAt(0, pathsOf(1, impl.SubAsked)...), connAt(0, pathsOf(2, impl.SubOpen, impl.SubAsked)...), free,
	} {
		for i, one := range all {
			for _, once := range one(c) {
				tell(once)
				for _, other := range all[i+1:] {
					for _, twice := range other(once) {
						tell(twice)
					}
				}
			}
		}
	}
}

// wrongConns have each a fault, some of them several.
func wrongConns() (out []impl.Conn) {
	for _, turn := range connTurns() {
		out = append(out, turn(connAt(0, pathsOf(2, impl.SubOpen, impl.SubAsked)...))...)
		out = append(out, turn(impl.Conn{Side: 1, Key: 5, FinIn: -1})...)
	}
	for _, g := range wrongGathers() {
		c := connAt(1)
		c.In = g
		out = append(out, c)
	}
	for _, x := range wrongSubs() {
		x.Join = false
		out = append(out, connAt(0, x), connAt(1, x))
	}
	out = append(out, impl.Conn{})
	return slices.DeleteFunc(out, func(c impl.Conn) bool { return connFaultModel(c) == impl.OK })
}

func TestConnConstants(t *testing.T) {
	if impl.MaxWrote != 300 {
		t.Errorf("MaxWrote is %d", impl.MaxWrote)
	}
}

// with is that conn with something turned.
func with(c impl.Conn, turn func(c *impl.Conn)) impl.Conn {
	c = cloneConn(c)
	turn(&c)
	return c
}

func TestConnFault(t *testing.T) {
	base := connAt(0, pathsOf(1, impl.SubOpen)...)
	set := func(turn func(c *impl.Conn)) impl.Conn { return with(base, turn) }
	ends := func(finIn int64, done string, pieces ...impl.Piece) impl.Conn {
		return set(func(c *impl.Conn) { c.In, c.FinIn, c.Given = gatherWith(done, pieces...), finIn, 0 })
	}
	rows := []struct {
		what string
		c    impl.Conn
		want int64
	}{
		{"a conn with a path", base, impl.OK},
		{"Side -1", set(func(c *impl.Conn) { c.Side = -1 }), impl.ErrRange},
		{"Side 1", set(func(c *impl.Conn) { c.Side = 1 }), impl.OK},
		{"Side 2", set(func(c *impl.Conn) { c.Side = 2 }), impl.ErrRange},
		{"Key -1", set(func(c *impl.Conn) { c.Key = -1 }), impl.ErrRange},
		{"Key 0", set(func(c *impl.Conn) { c.Key = 0 }), impl.ErrRange},
		{"Key 1", set(func(c *impl.Conn) { c.Key = 1 }), impl.OK},
		{"the last key", set(func(c *impl.Conn) { c.Key = impl.MaxKey }), impl.OK},
		{"one more than the last key", set(func(c *impl.Conn) { c.Key = impl.MaxKey + 1 }), impl.ErrRange},
		{"Peer -1", set(func(c *impl.Conn) { c.Peer = -1 }), impl.ErrRange},
		{"Peer not known", set(func(c *impl.Conn) { c.Peer = 0 }), impl.OK},
		{"Peer 1", set(func(c *impl.Conn) { c.Peer = 1 }), impl.OK},
		{"Peer the last key", set(func(c *impl.Conn) { c.Peer = impl.MaxKey }), impl.OK},
		{"Peer one more than the last key", set(func(c *impl.Conn) { c.Peer = impl.MaxKey + 1 }), impl.ErrRange},
		{"nothing written", set(func(c *impl.Conn) { c.Wrote, c.Acked = nil, 0 }), impl.OK},
		{"300 written", set(func(c *impl.Conn) { c.Wrote = lettersOf(300) }), impl.OK},
		{"301 written", set(func(c *impl.Conn) { c.Wrote = lettersOf(301) }), impl.ErrMany},
		{"Acked -1", set(func(c *impl.Conn) { c.Acked = -1 }), impl.ErrRange},
		{"Acked 0", set(func(c *impl.Conn) { c.Acked = 0 }), impl.OK},
		{"all is Acked", set(func(c *impl.Conn) { c.Acked = 5 }), impl.OK},
		{"one more is Acked", set(func(c *impl.Conn) { c.Acked = 6 }), impl.ErrRange},
		{"300 are Acked, fewer written", set(func(c *impl.Conn) { c.Acked = 300 }), impl.ErrRange},
		{"Fin", set(func(c *impl.Conn) { c.Fin = true }), impl.OK},
		{"Fin, and all is Acked", set(func(c *impl.Conn) { c.Fin, c.Acked = true, 5 }), impl.OK},
		{"FinDone, not Fin", set(func(c *impl.Conn) { c.FinDone, c.Acked = true, 5 }), impl.ErrForm},
		{"FinDone, not all is Acked", set(func(c *impl.Conn) { c.Fin, c.FinDone, c.Acked = true, true, 4 }), impl.ErrForm},
		{"FinDone", set(func(c *impl.Conn) { c.Fin, c.FinDone, c.Acked = true, true, 5 }), impl.OK},
		{"FinDone, nothing written", set(func(c *impl.Conn) { c.Wrote, c.Acked, c.Fin, c.FinDone = nil, 0, true, true }), impl.OK},
		{"a piece at the end of Done", set(func(c *impl.Conn) { c.In = gatherWith("abc", piece(3, "x")) }), impl.ErrForm},
		{"401 are Done", set(func(c *impl.Conn) { c.In = impl.Gather{Done: lettersOf(401)} }), impl.ErrMany},
		{"a piece behind the stream", set(func(c *impl.Conn) { c.In = gatherWith("abc", piece(400, "x")) }), impl.ErrRange},
		{"FinIn -2", set(func(c *impl.Conn) { c.FinIn = -2 }), impl.ErrRange},
		{"FinIn 401", set(func(c *impl.Conn) { c.FinIn = 401 }), impl.ErrRange},
		{"FinIn 400", set(func(c *impl.Conn) { c.FinIn = 400 }), impl.OK},
		{"Given -1", set(func(c *impl.Conn) { c.Given = -1 }), impl.ErrRange},
		{"Given 0", set(func(c *impl.Conn) { c.Given = 0 }), impl.OK},
		{"all that is Done is Given", set(func(c *impl.Conn) { c.Given = 6 }), impl.OK},
		{"one more is Given", set(func(c *impl.Conn) { c.Given = 7 }), impl.ErrRange},
		{"an end at 0, nothing is in", ends(0, ""), impl.OK},
		{"an end at 0, one is Done", ends(0, "a"), impl.ErrForm},
		{"an end at what is Done", ends(3, "abc"), impl.OK},
		{"an end below what is Done", ends(2, "abc"), impl.ErrForm},
		{"an end behind what is Done", ends(4, "abc"), impl.OK},
		{"an end where the piece ends", ends(7, "abc", piece(5, "fg")), impl.OK},
		{"an end within the piece", ends(6, "abc", piece(5, "fg")), impl.ErrForm},
		{"an end where the piece begins", ends(5, "abc", piece(5, "fg")), impl.ErrForm},
		{"an end ahead of the piece", ends(4, "abc", piece(5, "fg")), impl.ErrForm},
		{"an end at what is Done, a piece behind", ends(3, "abc", piece(5, "fg")), impl.ErrForm},
		{"an end between two pieces", ends(8, "abc", piece(5, "fg"), piece(9, "j")), impl.ErrForm},
		{"an end at the last piece", ends(10, "abc", piece(5, "fg"), piece(9, "j")), impl.OK},
		{"an end at 400, all is Done", with(ends(400, ""), func(c *impl.Conn) { c.In.Done = lettersOf(400) }), impl.OK},
		{"no end, a piece", ends(-1, "", piece(5, "fg")), impl.OK},
	}
	for _, row := range rows {
		if got := impl.ConnFault(row.c); got != row.want {
			t.Errorf("%s: ConnFault = %d, want %d", row.what, got, row.want)
		}
	}
}

func TestConnFaultOfSubs(t *testing.T) {
	const asked, answered, open, closed = impl.SubAsked, impl.SubAnswered, impl.SubOpen, impl.SubClosed
	at := func(side int64, plain bool, free bool, subs ...impl.Sub) impl.Conn {
		c := connAt(side, subs...)
		c.Plain, c.Free = plain, free
		return c
	}
	first, second, third := pathOf(0, open, false), pathOf(1, open, true), pathOf(2, open, true)
	rows := []struct {
		what string
		c    impl.Conn
		want int64
	}{
		{"no subs", at(0, false, false), impl.OK},
		{"no subs, Plain", at(0, true, false), impl.OK},
		{"no subs, Free", at(0, false, true), impl.ErrForm},
		{"one", at(0, false, false, first), impl.OK},
		{"one, Plain", at(1, true, false, first), impl.OK},
		{"one, Free", at(1, false, true, first), impl.ErrForm},
		{"two", at(0, false, false, first, second), impl.OK},
		{"two, Free", at(0, false, true, first, second), impl.OK},
		{"two, Plain", at(0, true, false, first, second), impl.ErrForm},
		{"two, Plain and Free", at(1, true, true, first, second), impl.ErrForm},
		{"three", at(1, false, false, first, second, third), impl.OK},
		{"three, Free", at(1, false, true, first, second, third), impl.OK},
		{"three, Plain", at(1, true, false, first, second, third), impl.ErrForm},
		{"three, in another order", at(1, false, true, pathsOf(2, open, open, open)...), impl.OK},
		{"four", at(0, false, false, first, second, third, pathOf(0, open, true)), impl.ErrTaken},
		{"two of one path", at(0, false, false, first, pathOf(0, open, true)), impl.ErrTaken},
		{"the second and the third of one path", at(0, false, false, first, second, pathOf(1, closed, true)), impl.ErrTaken},
		{"the first and the third of one path", at(0, false, false, first, second, pathOf(0, closed, true)), impl.ErrTaken},
		{"the first is a Join", at(0, false, false, pathOf(0, open, true)), impl.ErrForm},
		{"the first of two is a Join", at(0, false, false, pathOf(0, open, true), second), impl.ErrForm},
		{"the second is no Join", at(0, false, false, first, pathOf(1, open, false)), impl.ErrForm},
		{"the third is no Join", at(0, false, false, first, second, pathOf(2, open, false)), impl.ErrForm},
		{"asked at the side 0", at(0, false, false, pathsOf(0, asked)...), impl.OK},
		{"asked at the side 0, Plain", at(0, true, false, pathsOf(0, asked)...), impl.OK},
		{"asked at the side 1", at(1, false, false, pathsOf(0, asked)...), impl.ErrForm},
		{"answered at the side 0", at(0, false, false, pathsOf(0, answered)...), impl.ErrForm},
		{"answered at the side 1", at(1, false, false, pathsOf(0, answered)...), impl.OK},
		{"the first of two is asked", at(0, false, false, pathsOf(0, asked, open)...), impl.ErrForm},
		{"the first of three is asked", at(0, false, true, pathsOf(0, asked, open, closed)...), impl.ErrForm},
		{"the first of two is answered", at(1, false, false, pathsOf(0, answered, open)...), impl.OK},
		{"the first of two is closed", at(0, false, false, pathsOf(0, closed, open)...), impl.OK},
		{"the second is asked", at(0, false, false, pathsOf(0, open, asked)...), impl.OK},
		{"the second and the third are asked", at(0, false, false, pathsOf(0, closed, asked, asked)...), impl.OK},
		{"the second is asked at the side 1", at(1, false, false, pathsOf(0, open, asked)...), impl.ErrForm},
		{"the third is asked at the side 1", at(1, false, false, pathsOf(0, open, open, asked)...), impl.ErrForm},
		{"the second is answered at the side 0", at(0, false, false, pathsOf(0, open, answered)...), impl.ErrForm},
		{"the third is answered at the side 0", at(0, false, false, pathsOf(0, open, open, answered)...), impl.ErrForm},
		{"all are answered at the side 1", at(1, false, false, pathsOf(0, answered, answered, answered)...), impl.OK},
		{"all are closed", at(0, false, true, pathsOf(0, closed, closed, closed)...), impl.OK},
	}
	for _, row := range rows {
		if got := impl.ConnFault(row.c); got != row.want {
			t.Errorf("%s: ConnFault = %d, want %d", row.what, got, row.want)
		}
	}
}

// The order of the codes: the side and the keys, what was written, what came in, the subs one by one, and what they may not be together.
func TestConnFaultOrder(t *testing.T) {
	many, noSide := lettersOf(301), int64(2)
	first := pathOf(0, impl.SubOpen, false)
	wrong := func(path int64, join bool, window int64, count int) impl.Sub {
		x := pathOf(path, impl.SubOpen, join)
		x.Control.Window, x.Send = window, fullSender(3, 0, count, 1)
		return x
	}
	set := func(turn func(c *impl.Conn)) impl.Conn { return with(connAt(0, first), turn) }
	rows := []struct {
		what string
		c    impl.Conn
		want int64
	}{
		{"Side ahead of what is written", set(func(c *impl.Conn) { c.Side, c.Wrote = noSide, many }), impl.ErrRange},
		{"Key ahead of what is written", set(func(c *impl.Conn) { c.Key, c.Wrote = 0, many }), impl.ErrRange},
		{"Peer ahead of what is written", set(func(c *impl.Conn) { c.Peer, c.Wrote = -1, many }), impl.ErrRange},
		{"Peer ahead of FinDone", set(func(c *impl.Conn) { c.Peer, c.FinDone = -1, true }), impl.ErrRange},
		{"what is written ahead of Acked", set(func(c *impl.Conn) { c.Wrote, c.Acked = many, 302 }), impl.ErrMany},
		{"what is written ahead of FinDone", set(func(c *impl.Conn) { c.Wrote, c.FinDone = many, true }), impl.ErrMany},
		{"Acked ahead of FinDone", set(func(c *impl.Conn) { c.Acked, c.FinDone = 6, true }), impl.ErrRange},
		{"Acked ahead of what is in", set(func(c *impl.Conn) { c.Acked, c.In = -1, combOf(41) }), impl.ErrRange},
		{"FinDone ahead of what is in", set(func(c *impl.Conn) { c.FinDone, c.In = true, combOf(41) }), impl.ErrForm},
		{"FinDone ahead of FinIn", set(func(c *impl.Conn) { c.FinDone, c.FinIn = true, -2 }), impl.ErrForm},
		{"what is in ahead of FinIn", set(func(c *impl.Conn) { c.In, c.FinIn = combOf(41), -2 }), impl.ErrMany},
		{"what is in ahead of Given", set(func(c *impl.Conn) { c.In, c.Given = gatherWith("abc", piece(3, "x")), -1 }), impl.ErrForm},
		{"Given ahead of an end within", set(func(c *impl.Conn) { c.Given, c.FinIn = 7, 3 }), impl.ErrRange},
		{"Given ahead of the subs", set(func(c *impl.Conn) { c.Given, c.Subs = 7, []impl.Sub{wrong(0, false, 16, 13)} }), impl.ErrRange},
		{"FinIn ahead of the subs", set(func(c *impl.Conn) { c.FinIn, c.Subs = 401, []impl.Sub{wrong(0, false, 16, 13)} }), impl.ErrRange},
		{"an end within ahead of the subs", set(func(c *impl.Conn) { c.FinIn, c.Subs = 3, []impl.Sub{wrong(0, false, 16, 13)} }), impl.ErrForm},
		{"what is in ahead of the subs", set(func(c *impl.Conn) { c.In, c.Subs = combOf(41), []impl.Sub{wrong(0, false, 7, 2)} }), impl.ErrMany},
		{"a sub's fault ahead of its Join", connAt(0, wrong(0, true, 16, 13)), impl.ErrMany},
		{"a sub's fault ahead of its path", connAt(0, first, wrong(0, true, 16, 13)), impl.ErrMany},
		{"a sub's path ahead of its Join", connAt(0, first, pathOf(0, impl.SubOpen, false)), impl.ErrTaken},
		{"the first one's Join ahead of the second one's fault", connAt(0, pathOf(0, impl.SubOpen, true), wrong(1, true, 16, 13)), impl.ErrForm},
		{"the first one's Join ahead of the second one's path", connAt(0, pathOf(0, impl.SubOpen, true), pathOf(0, impl.SubOpen, true)), impl.ErrForm},
		{"the second one's path ahead of the third one's fault", connAt(0, first, pathOf(0, impl.SubOpen, true), wrong(2, true, 16, 13)), impl.ErrTaken},
		{"the second one's Join ahead of the third one's path", connAt(0, first, pathOf(1, impl.SubOpen, false), pathOf(0, impl.SubOpen, true)), impl.ErrForm},
		{"the second one's fault ahead of the third one's path", connAt(0, first, wrong(1, true, 7, 2), pathOf(0, impl.SubOpen, true)), impl.ErrRange},
		{"a sub's fault ahead of Plain", with(connAt(0, first, wrong(1, true, 16, 13)), func(c *impl.Conn) { c.Plain = true }), impl.ErrMany},
		{"a sub's path ahead of Plain", with(connAt(0, first, pathOf(0, impl.SubOpen, true)), func(c *impl.Conn) { c.Plain = true }), impl.ErrTaken},
		{"a sub's fault ahead of Free", with(connAt(0, wrong(1, false, 16, 13)), func(c *impl.Conn) { c.Free = true }), impl.ErrMany},
		{"a sub's path ahead of a first one that is asked", connAt(0, pathOf(0, impl.SubAsked, false), pathOf(0, impl.SubOpen, true)), impl.ErrTaken},
		{"a sub's fault ahead of one that is answered", connAt(0, first, pathOf(1, impl.SubAnswered, true), wrong(2, true, 16, 13)), impl.ErrMany},
		{"a sub's path ahead of one that is asked at the side 1", connAt(1, pathOf(0, impl.SubAsked, false), pathOf(0, impl.SubOpen, true)), impl.ErrTaken},
	}
	for _, row := range rows {
		if got := impl.ConnFault(row.c); got != row.want {
			t.Errorf("%s: ConnFault = %d, want %d", row.what, got, row.want)
		}
	}
}

func TestConnFaultAgainstModel(t *testing.T) {
	codes := map[int64]int{}
	turnedConns(func(c impl.Conn) {
		got, want := impl.ConnFault(c), connFaultModel(c)
		if got != want {
			t.Fatalf("ConnFault(%+v) = %d, want %d", c, got, want)
		}
		codes[got]++
	})
	for _, code := range []int64{impl.OK, impl.ErrForm, impl.ErrMany, impl.ErrRange, impl.ErrTaken} {
		if codes[code] < 50 {
			t.Errorf("the code %d came only %d times", code, codes[code])
		}
	}
	for _, c := range slices.Concat(rightConns(), drawnConns(300)) {
		if got := impl.ConnFault(c); got != impl.OK || connFaultModel(c) != impl.OK {
			t.Errorf("ConnFault(%+v) = %d, by the model %d", c, got, connFaultModel(c))
		}
	}
	for _, c := range wrongConns() {
		if got := impl.ConnFault(c); got == impl.OK || got != connFaultModel(c) {
			t.Errorf("ConnFault(%+v) = %d, want %d", c, got, connFaultModel(c))
		}
	}
}

// Whatever fault a gather or a sub has, a conn that has it has that one, too.
func TestConnFaultOfEachPart(t *testing.T) {
	for _, g := range allGathers() {
		c := connAt(1)
		c.In, c.Given = g, 0
		if got, want := impl.ConnFault(c), gatherFaultModel(g); got != want {
			t.Fatalf("with %+v in: ConnFault = %d, want %d", g, got, want)
		}
	}
	count := 0
	turnedSubs(func(x impl.Sub) {
		if count++; count%11 != 0 {
			return
		}
		want := subFaultModel(x)
		if want == impl.OK {
			return
		}
		for _, c := range []impl.Conn{connAt(0, x), connAt(1, pathOf(0, impl.SubOpen, false), x), connAt(0, pathOf(0, impl.SubOpen, false), pathOf(1, impl.SubClosed, true), x)} {
			if got := impl.ConnFault(c); got != want {
				t.Fatalf("with the sub %+v: ConnFault = %d, want %d", x, got, want)
			}
		}
	})
}

// With a conn that has a fault every function tells its code, whatever else is wrong, and zero beside it.
func TestConnFaultIsAskedFirst(t *testing.T) {
	check := func(c impl.Conn) {
		fault := connFaultModel(c)
		if fault == impl.OK {
			return
		}
		none := impl.ConnResult{Code: fault}
		for _, data := range [][]byte{nil, []byte("x"), lettersOf(301)} {
			if got := impl.WriteConn(c, data); !sameConns(got, none) {
				t.Fatalf("WriteConn(%+v, %q) = %+v, want the code %d", c, data, got, fault)
			}
		}
		for _, n := range []int64{0, 1, -1, math.MaxInt64} {
			read, dial, told := impl.ReadConn(c, n), impl.DialConn(c, n, n, n), impl.TellSegment(c, n)
			if !sameConns(read, none) || !sameConns(dial, none) || !sameResult(told, impl.SegmentResult{Code: fault}) || impl.SubOn(c, n) != (impl.IntResult{Code: fault}) {
				t.Fatalf("of %+v and %d: ReadConn %+v, DialConn %+v, TellSegment %+v, SubOn %+v, want the code %d", c, n, read, dial, told, impl.SubOn(c, n), fault)
			}
		}
		if got := impl.CloseConn(c); !sameConns(got, none) {
			t.Fatalf("CloseConn(%+v) = %+v, want the code %d", c, got, fault)
		}
		if got := impl.DataAckOf(c); got != (impl.IntResult{Code: fault}) {
			t.Fatalf("DataAckOf(%+v) = %+v, want the code %d", c, got, fault)
		}
	}
	count := 0
	turnedConns(func(c impl.Conn) {
		if count++; count%5 == 0 {
			check(c)
		}
	})
	for _, c := range wrongConns() {
		check(c)
	}
}

func TestNewConn(t *testing.T) {
	rows := []struct{ side, key, code int64 }{
		{0, 5, impl.OK}, {1, 5, impl.OK}, {0, 1, impl.OK}, {1, impl.MaxKey, impl.OK},
		{-1, 5, impl.ErrRange}, {2, 5, impl.ErrRange}, {math.MinInt64, 5, impl.ErrRange}, {math.MaxInt64, 5, impl.ErrRange},
		{0, 0, impl.ErrRange}, {1, -1, impl.ErrRange}, {0, impl.MaxKey + 1, impl.ErrRange}, {1, math.MinInt64, impl.ErrRange}, {0, math.MaxInt64, impl.ErrRange},
		{2, 0, impl.ErrRange}, {-1, impl.MaxKey + 1, impl.ErrRange},
	}
	for _, row := range rows {
		want := impl.ConnResult{Code: row.code}
		if row.code == impl.OK {
			want.Conn = impl.Conn{Side: row.side, Key: row.key, FinIn: -1}
		}
		if got := impl.NewConn(row.side, row.key); !sameConns(got, want) {
			t.Errorf("NewConn(%d, %d) = %+v", row.side, row.key, got)
		}
	}
	for _, side := range aroundOf(0, 1) {
		for _, key := range aroundOf(0, 1, 500, 999999) {
			if got := impl.NewConn(side, key); !sameConns(got, newConnModel(side, key)) {
				t.Errorf("NewConn(%d, %d) = %+v", side, key, got)
			}
		}
	}
}

func TestWriteConn(t *testing.T) {
	const most = impl.MaxWrote
	rows := []struct {
		what  string
		wrote []byte
		fin   bool
		data  []byte
		code  int64
	}{
		{"ordinary", []byte("hello"), false, []byte(" you"), impl.OK},
		{"the first bytes", nil, false, []byte("hello"), impl.OK},
		{"no bytes", []byte("hello"), false, []byte{}, impl.OK},
		{"nil", []byte("hello"), false, nil, impl.OK},
		{"nil behind nil", nil, false, nil, impl.OK},
		{"all at once", nil, false, lettersOf(most), impl.OK},
		{"one too many at once", nil, false, lettersOf(most + 1), impl.ErrMany},
		{"up to the most", lettersOf(most - 1), false, []byte("x"), impl.OK},
		{"one above the most", lettersOf(most - 1), false, []byte("xy"), impl.ErrMany},
		{"one at the most", lettersOf(most), false, []byte("x"), impl.ErrMany},
		{"none at the most", lettersOf(most), false, nil, impl.OK},
		{"far too many", []byte("a"), false, lettersOf(70000), impl.ErrMany},
		{"behind the end", []byte("hello"), true, []byte("x"), impl.ErrState},
		{"no bytes behind the end", []byte("hello"), true, nil, impl.ErrState},
		{"too many behind the end", lettersOf(most), true, lettersOf(most), impl.ErrState},
	}
	for _, row := range rows {
		c := with(connAt(0, pathsOf(1, impl.SubOpen)...), func(c *impl.Conn) { c.Wrote, c.Acked, c.Fin = row.wrote, 0, row.fin })
		want := impl.ConnResult{Code: row.code}
		if row.code == impl.OK {
			want.Conn = with(c, func(c *impl.Conn) { c.Wrote = append(c.Wrote, row.data...) })
		}
		if got := impl.WriteConn(c, row.data); !sameConns(got, want) {
			t.Errorf("%s: WriteConn = %+v, want %+v", row.what, got, want)
		}
	}
}

func TestWriteConnAgainstModel(t *testing.T) {
	for _, c := range slices.Concat(rightConns(), wrongConns(), drawnConns(150)) {
		left := max(0, impl.MaxWrote-len(c.Wrote))
		for _, data := range [][]byte{nil, {}, {7}, []byte("hello"), lettersOf(left), lettersOf(left + 1), c.Wrote, c.In.Done} {
			if got, want := impl.WriteConn(c, data), writeModel(c, data); !sameConns(got, want) {
				t.Fatalf("WriteConn(%+v, %q) = %+v, want %+v", c, data, got, want)
			}
		}
	}
}

func TestCloseConn(t *testing.T) {
	c := connAt(1, pathsOf(1, impl.SubOpen, impl.SubOpen)...)
	got := impl.CloseConn(c)
	if !sameConns(got, impl.ConnResult{Conn: with(c, func(c *impl.Conn) { c.Fin = true })}) {
		t.Errorf("CloseConn(%+v) = %+v", c, got)
	}
	if again := impl.CloseConn(got.Conn); !sameConns(again, impl.ConnResult{Code: impl.ErrState}) {
		t.Errorf("closed again: %+v", again)
	}
	done := with(c, func(c *impl.Conn) { c.Fin, c.FinDone, c.Acked = true, true, 5 })
	if again := impl.CloseConn(done); !sameConns(again, impl.ConnResult{Code: impl.ErrState}) {
		t.Errorf("closed, and known to be: %+v", again)
	}
	for _, c := range slices.Concat(rightConns(), wrongConns(), drawnConns(300)) {
		if got, want := impl.CloseConn(c), closeConnModel(c); !sameConns(got, want) {
			t.Fatalf("CloseConn(%+v) = %+v, want %+v", c, got, want)
		}
	}
}

func TestReadConn(t *testing.T) {
	const unknown = -1
	rows := []struct {
		what   string
		done   string
		pieces []impl.Piece
		finIn  int64
		given  int64
		n      int64
		data   string
		end    bool
	}{
		{"some", "abcdef", nil, unknown, 0, 2, "ab", false},
		{"the next ones", "abcdef", nil, unknown, 2, 3, "cde", false},
		{"all", "abcdef", nil, unknown, 0, 6, "abcdef", false},
		{"more than there are", "abcdef", nil, unknown, 4, 9, "ef", false},
		{"the most", "abcdef", nil, unknown, 0, 1000, "abcdef", false},
		{"none", "abcdef", nil, unknown, 2, 0, "", false},
		{"behind the last one", "abcdef", nil, unknown, 6, 5, "", false},
		{"nothing is Done", "", nil, unknown, 0, 5, "", false},
		{"not a piece", "abc", []impl.Piece{piece(4, "ef")}, unknown, 1, 9, "bc", false},
		{"up to the end", "abcdef", nil, 6, 2, 4, "cdef", true},
		{"beyond the end", "abcdef", nil, 6, 2, 1000, "cdef", true},
		{"not up to the end", "abcdef", nil, 6, 2, 3, "cde", false},
		{"at the end", "abcdef", nil, 6, 6, 5, "", true},
		{"none at the end", "abcdef", nil, 6, 6, 0, "", true},
		{"none ahead of the end", "abcdef", nil, 6, 5, 0, "", false},
		{"the end is not there yet", "abcdef", nil, 7, 0, 1000, "abcdef", false},
		{"the end is behind a piece", "abc", []impl.Piece{piece(4, "ef")}, 6, 0, 1000, "abc", false},
		{"a stream of no bytes", "", nil, 0, 0, 5, "", true},
		{"a stream of no bytes, none asked", "", nil, 0, 0, 0, "", true},
	}
	for _, row := range rows {
		c := with(connAt(0, pathsOf(1, impl.SubOpen)...), func(c *impl.Conn) {
			c.In, c.FinIn, c.Given = gatherWith(row.done, row.pieces...), row.finIn, row.given
		})
		want := impl.ConnResult{Conn: with(c, func(c *impl.Conn) { c.Given += int64(len(row.data)) }), Data: []byte(row.data), End: row.end}
		if got := impl.ReadConn(c, row.n); !sameConns(got, want) {
			t.Errorf("%s: ReadConn = %+v, want %+v", row.what, got, want)
		}
	}
	for _, n := range []int64{-1, 1001, math.MinInt64, math.MaxInt64} {
		if got := impl.ReadConn(connAt(0), n); !sameConns(got, impl.ConnResult{Code: impl.ErrRange}) {
			t.Errorf("ReadConn of %d = %+v", n, got)
		}
	}
}

func TestReadConnAgainstModel(t *testing.T) {
	for _, c := range slices.Concat(rightConns(), wrongConns(), drawnConns(150)) {
		left := int64(len(c.In.Done)) - c.Given
		for _, n := range append(aroundOf(0, 1000), 2, 7, left-1, left, left+1) {
			if got, want := impl.ReadConn(c, n), readModel(c, n); !sameConns(got, want) {
				t.Fatalf("ReadConn(%+v, %d) = %+v, want %+v", c, n, got, want)
			}
		}
	}
}

func TestDialConn(t *testing.T) {
	fresh := impl.Conn{Key: 5, FinIn: -1}
	got := impl.DialConn(fresh, 1, 3, 2)
	start := mixModel(5, 3) % 65536
	want := impl.ConnResult{
		Conn: with(fresh, func(c *impl.Conn) {
			c.Subs = []impl.Sub{{Path: 1, State: impl.SubAsked, Nonce: 3, Sent: 2, Send: impl.Sender{Start: start}, Control: impl.Control{Window: 16, Bound: 64}}}
		}),
		Send: []impl.Segment{{Path: 1, Syn: true, Seq: start, Opt: impl.OptKey, A: 5}},
	}
	if !sameConns(got, want) {
		t.Errorf("the first path: %+v, want %+v", got, want)
	}
	c := connAt(0, pathsOf(1, impl.SubOpen)...)
	got = impl.DialConn(c, 2, 1000000, 999999)
	start = mixModel(5, 4) % 65536
	want = impl.ConnResult{
		Conn: with(c, func(c *impl.Conn) {
			c.Subs = append(c.Subs, impl.Sub{Path: 2, State: impl.SubAsked, Join: true, Nonce: 1000000, Sent: 999999, Send: impl.Sender{Start: start}, Control: impl.Control{Window: 16, Bound: 64}})
		}),
		Send: []impl.Segment{{Path: 2, Syn: true, Seq: start, Opt: impl.OptJoin, A: mixModel(7, 1), B: 1000000}},
	}
	if !sameConns(got, want) {
		t.Errorf("a second path: %+v, want %+v", got, want)
	}
	if zero := impl.DialConn(fresh, 0, 0, 0); zero.Send[0].Seq != impl.StartOf(5).Value {
		t.Errorf("the path 0 begins at %d, StartOf tells %d", zero.Send[0].Seq, impl.StartOf(5).Value)
	}
}

func TestDialConnWrong(t *testing.T) {
	const asked, answered, open, closed = impl.SubAsked, impl.SubAnswered, impl.SubOpen, impl.SubClosed
	plain := func(c impl.Conn) impl.Conn { return with(c, func(c *impl.Conn) { c.Plain = true }) }
	unknown := func(c impl.Conn) impl.Conn { return with(c, func(c *impl.Conn) { c.Peer = 0 }) }
	rows := []struct {
		what string
		c    impl.Conn
		path int64
		code int64
	}{
		{"the first path, Peer not known", unknown(connAt(0)), 0, impl.OK},
		{"the first path, Plain", plain(connAt(0)), 0, impl.OK},
		{"at the side 1", connAt(1), 0, impl.ErrState},
		{"at the side 1, with an open path", connAt(1, pathsOf(0, open)...), 1, impl.ErrState},
		{"at the side 1, the path is taken", connAt(1, pathsOf(0, open)...), 0, impl.ErrState},
		{"a second path", connAt(0, pathsOf(0, open)...), 1, impl.OK},
		{"a second path, Plain", plain(connAt(0, pathsOf(0, open)...)), 1, impl.ErrState},
		{"a second path, Plain, Peer not known", plain(unknown(connAt(0, pathsOf(0, open)...))), 1, impl.ErrState},
		{"a second path, Peer not known", unknown(connAt(0, pathsOf(0, open)...)), 1, impl.ErrState},
		{"a second path, the first is asked", connAt(0, pathsOf(0, asked)...), 1, impl.ErrState},
		{"a second path, the first is closed", connAt(0, pathsOf(0, closed)...), 1, impl.ErrState},
		{"the path is taken", connAt(0, pathsOf(0, open)...), 0, impl.ErrTaken},
		{"the path is taken by the second", connAt(0, pathsOf(0, open, closed)...), 1, impl.ErrTaken},
		{"the path is taken by the third", connAt(0, pathsOf(0, open, closed, asked)...), 2, impl.ErrTaken},
		{"the path is taken, Plain", plain(connAt(0, pathsOf(0, open)...)), 0, impl.ErrState},
		{"the path is taken, the first is closed", connAt(0, pathsOf(0, closed)...), 0, impl.ErrState},
		{"the path is taken, Peer not known", unknown(connAt(0, pathsOf(0, open)...)), 0, impl.ErrState},
		{"a third path", connAt(0, pathsOf(0, open, open)...), 2, impl.OK},
		{"a third path, the second is asked", connAt(0, pathsOf(0, open, asked)...), 2, impl.OK},
		{"a third path, the second is closed", connAt(0, pathsOf(0, open, closed)...), 2, impl.OK},
		{"a third path, the first is closed", connAt(0, pathsOf(0, closed, open)...), 2, impl.ErrState},
		{"path -1", connAt(0), -1, impl.ErrRange},
		{"path 3", connAt(0), 3, impl.ErrRange},
		{"path 3 at the side 1", connAt(1), 3, impl.ErrRange},
		{"path 3, Plain", plain(connAt(0, pathsOf(0, open)...)), 3, impl.ErrRange},
		{"an answered one at the side 1", connAt(1, pathsOf(0, answered)...), 1, impl.ErrState},
	}
	for _, row := range rows {
		got := impl.DialConn(row.c, row.path, 3, 2)
		if got.Code != row.code || row.code != impl.OK && !sameConns(got, impl.ConnResult{Code: row.code}) {
			t.Errorf("%s: DialConn = %+v, want the code %d", row.what, got, row.code)
		}
	}
	for _, n := range []int64{-1, 1000001, math.MinInt64, math.MaxInt64} {
		for _, c := range []impl.Conn{connAt(0), connAt(1), connAt(0, pathsOf(0, open)...), connAt(0, pathsOf(0, asked)...)} {
			for _, got := range []impl.ConnResult{impl.DialConn(c, 0, n, 2), impl.DialConn(c, 0, 3, n), impl.DialConn(c, n, 3, 2), impl.DialConn(c, n, n, n)} {
				if !sameConns(got, impl.ConnResult{Code: impl.ErrRange}) {
					t.Errorf("DialConn(%+v) with %d = %+v", c, n, got)
				}
			}
		}
	}
}

func TestDialConnAgainstModel(t *testing.T) {
	told := map[int64]int{}
	check := func(c impl.Conn, path int64, nonce int64, now int64) {
		got, want := impl.DialConn(c, path, nonce, now), dialModel(c, path, nonce, now)
		if !sameConns(got, want) {
			t.Fatalf("DialConn(%+v, %d, %d, %d) = %+v, want %+v", c, path, nonce, now, got, want)
		}
		told[got.Code]++
	}
	for _, c := range slices.Concat(rightConns(), wrongConns(), drawnConns(150)) {
		for _, path := range []int64{-1, 0, 1, 2, 3} {
			for _, n := range []int64{-1, 0, 77, 1000000, 1000001} {
				check(c, path, n, 1000000-n)
				check(c, path, 5, n)
			}
		}
	}
	for _, path := range aroundOf(0, 2) {
		for _, nonce := range aroundOf(0, 1000000) {
			for _, now := range aroundOf(0, 1000000) {
				check(impl.Conn{Key: 9, FinIn: -1}, path, nonce, now)
				check(connAt(0, pathsOf(1, impl.SubOpen)...), path, nonce, now)
			}
		}
	}
	for _, code := range []int64{impl.OK, impl.ErrRange, impl.ErrState, impl.ErrTaken, impl.ErrForm, impl.ErrMany} {
		if told[code] < 50 {
			t.Errorf("the code %d came only %d times", code, told[code])
		}
	}
}

// Each path of each key begins at a number of its own making.
func TestDialConnStarts(t *testing.T) {
	for _, key := range []int64{1, 2, 5, 77, 4242, 65536, 500000, 999998, 999999} {
		for path := range int64(3) {
			want := mixModel(key, path+2) % 65536
			first := impl.DialConn(impl.Conn{Key: key, FinIn: -1}, path, 3, 2)
			joined := impl.DialConn(with(connAt(0, pathsOf((path+1)%3, impl.SubOpen)...), func(c *impl.Conn) { c.Key = key }), path, 3, 2)
			for _, got := range []impl.ConnResult{first, joined} {
				if x := got.Conn.Subs[len(got.Conn.Subs)-1]; x.Send.Start != want || got.Send[0].Seq != want {
					t.Errorf("the path %d of the key %d begins at %d, Seq %d, want %d", path, key, x.Send.Start, got.Send[0].Seq, want)
				}
			}
		}
	}
}

func TestSubOn(t *testing.T) {
	c := connAt(0, pathsOf(2, impl.SubClosed, impl.SubAsked)...)
	rows := []struct{ path, code, value int64 }{
		{2, impl.OK, 0}, {0, impl.OK, 1}, {1, impl.ErrNone, 0}, {-1, impl.ErrNone, 0}, {3, impl.ErrNone, 0}, {math.MinInt64, impl.ErrNone, 0}, {math.MaxInt64, impl.ErrNone, 0},
	}
	for _, row := range rows {
		if got := impl.SubOn(c, row.path); got != (impl.IntResult{Code: row.code, Value: row.value}) {
			t.Errorf("SubOn of the path %d = %+v", row.path, got)
		}
	}
	for _, c := range slices.Concat(rightConns(), wrongConns(), drawnConns(300)) {
		for _, path := range aroundOf(0, 2) {
			if got, want := impl.SubOn(c, path), subOnModel(c, path); got != want {
				t.Fatalf("SubOn(%+v, %d) = %+v, want %+v", c, path, got, want)
			}
		}
	}
}

func TestDataAckOf(t *testing.T) {
	rows := []struct {
		in    impl.Gather
		finIn int64
		want  int64
	}{
		{impl.Gather{}, -1, 0}, {impl.Gather{}, 0, 1}, {impl.Gather{}, 1, 0}, {gatherWith("abc"), -1, 3}, {gatherWith("abc"), 3, 4}, {gatherWith("abc"), 4, 3}, {gatherWith("abc"), 400, 3},
		{gatherWith("abc", piece(4, "e")), -1, 3}, {gatherWith("abc", piece(4, "e")), 5, 3}, {gatherWith("", piece(1, "b")), 2, 0},
		{impl.Gather{Done: lettersOf(400)}, -1, 400}, {impl.Gather{Done: lettersOf(400)}, 400, 401}, {impl.Gather{Done: lettersOf(399)}, 400, 399},
	}
	for _, row := range rows {
		for _, given := range []int64{0, int64(len(row.in.Done))} {
			c := with(connAt(1), func(c *impl.Conn) { c.In, c.FinIn, c.Given = row.in, row.finIn, given })
			if got := impl.DataAckOf(c); got != (impl.IntResult{Value: row.want}) {
				t.Errorf("DataAckOf with %+v in, its end at %d = %+v, want %d", row.in, row.finIn, got, row.want)
			}
		}
	}
	for _, c := range slices.Concat(rightConns(), wrongConns(), drawnConns(300)) {
		if got, want := impl.DataAckOf(c), dataAckModel(c); got != want {
			t.Fatalf("DataAckOf(%+v) = %+v, want %+v", c, got, want)
		}
	}
}

func TestTellSegment(t *testing.T) {
	x := pathOf(1, impl.SubOpen, false)
	x.Send, x.Catch = senderWith(65530, 4, flight(4, "abc", 2, 1)), catchWith(65535, 3, span(5, 6))
	base := connAt(1, x, pathOf(2, impl.SubClosed, true), pathOf(0, impl.SubAnswered, true))
	known := impl.Segment{Path: 1, From: 1, Ackd: true, Seq: 1, Ack: 2, Opt: impl.OptMap, A: 6}
	ended := known
	ended.End = 6
	plain := impl.Segment{Path: 1, From: 1, Ackd: true, Seq: 1, Ack: 2}
	finIn := known
	finIn.A = 4
	none := known
	none.End, none.A = 1, 1
	most := known
	most.End, most.A = 301, 401
	set := func(turn func(c *impl.Conn)) impl.Conn { return with(base, turn) }
	rows := []struct {
		what string
		c    impl.Conn
		path int64
		want impl.SegmentResult
	}{
		{"ordinary", base, 1, impl.SegmentResult{Segment: known}},
		{"what was written is ended", set(func(c *impl.Conn) { c.Fin = true }), 1, impl.SegmentResult{Segment: ended}},
		{"its end is known, too", set(func(c *impl.Conn) { c.Fin, c.FinDone, c.Acked = true, true, 5 }), 1, impl.SegmentResult{Segment: ended}},
		{"what came in is ended", set(func(c *impl.Conn) { c.In, c.FinIn = gatherWith("abc"), 3 }), 1, impl.SegmentResult{Segment: finIn}},
		{"both ended, no bytes", set(func(c *impl.Conn) {
			c.Wrote, c.Acked, c.Fin, c.In, c.FinIn, c.Given = nil, 0, true, impl.Gather{}, 0, 0
		}), 1, impl.SegmentResult{Segment: none}},
		{"both ended, the most bytes", set(func(c *impl.Conn) {
			c.Wrote, c.Fin, c.In, c.FinIn = lettersOf(300), true, impl.Gather{Done: lettersOf(400)}, 400
		}), 1, impl.SegmentResult{Segment: most}},
		{"Plain", set(func(c *impl.Conn) { c.Plain, c.Subs = true, c.Subs[:1] }), 1, impl.SegmentResult{Segment: plain}},
		{"closed", base, 2, impl.SegmentResult{Code: impl.ErrState}},
		{"answered", base, 0, impl.SegmentResult{Code: impl.ErrState}},
		{"asked", connAt(0, pathsOf(1, impl.SubAsked)...), 1, impl.SegmentResult{Code: impl.ErrState}},
		{"no sub", connAt(0, pathsOf(1, impl.SubAsked)...), 0, impl.SegmentResult{Code: impl.ErrNone}},
		{"no subs", connAt(0), 0, impl.SegmentResult{Code: impl.ErrNone}},
		{"path -1", base, -1, impl.SegmentResult{Code: impl.ErrNone}},
		{"path 3", base, 3, impl.SegmentResult{Code: impl.ErrNone}},
	}
	for _, row := range rows {
		if got := impl.TellSegment(row.c, row.path); !sameResult(got, row.want) {
			t.Errorf("%s: TellSegment = %+v, want %+v", row.what, got, row.want)
		}
	}
	for _, c := range slices.Concat(rightConns(), wrongConns(), drawnConns(300)) {
		for _, path := range aroundOf(0, 2) {
			if got, want := impl.TellSegment(c, path), tellModel(c, path); !sameResult(got, want) {
				t.Fatalf("TellSegment(%+v, %d) = %+v, want %+v", c, path, got, want)
			}
		}
	}
}
