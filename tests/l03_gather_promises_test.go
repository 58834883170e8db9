package tests

import (
	"bytes"
	"math/rand"
	"slices"
	"testing"

	"loop.example/g00230/impl"
)

// checkPut holds promise 4 of one call: what is put is there, and what was there stays.
func checkPut(t *testing.T, g impl.Gather, at int64, data []byte) impl.Gather {
	t.Helper()
	got := impl.PutPiece(g, at, data)
	if got.Code != impl.OK {
		t.Fatalf("PutPiece(%v, %d, %v) tells the code %d", g, at, data, got.Code)
	}
	if fault := impl.GatherFault(got.Gather); fault != impl.OK {
		t.Fatalf("PutPiece(%v, %d, %v) has the fault %d: %v", g, at, data, fault, got.Gather)
	}
	was, is := rowOf(g), rowOf(got.Gather)
	for place := int64(0); place < 400; place++ {
		put := place >= at && place < at+int64(len(data))
		if impl.HasByte(got.Gather, place) != (impl.HasByte(g, place) || put) {
			t.Fatalf("PutPiece(%v, %d, %v): HasByte at %d is not right", g, at, data, place)
		}
		if was[place] >= 0 && is[place] != was[place] {
			t.Fatalf("PutPiece(%v, %d, %v): the byte at %d was %d, is %d", g, at, data, place, was[place], is[place])
		}
		if was[place] < 0 && put && is[place] != int(data[place-at]) {
			t.Fatalf("PutPiece(%v, %d, %v): the byte at %d is %d", g, at, data, place, is[place])
		}
	}
	return got.Gather
}

func TestPromise4WhatIsPutIsThereAndWhatWasStays(t *testing.T) {
	draw := rand.New(rand.NewSource(4))
	for _, g := range append(rightGathers(), drawnGathers(60)...) {
		if len(g.Pieces) == 40 {
			continue
		}
		for range 12 {
			at := draw.Int63n(401)
			data := make([]byte, draw.Intn(int(min(401-at, 30))))
			draw.Read(data)
			checkPut(t, g, at, data)
		}
		checkPut(t, g, 0, bytes.Repeat([]byte{'#'}, 400))
		checkPut(t, g, 400, nil)
	}
}

// cut is a part of a stream, from a place to the one ahead of to.
type cut struct{ from, to int }

// cutsOf cuts a stream of so many bytes anywhere, into parts of at most so many bytes.
func cutsOf(draw *rand.Rand, count int, most int) []cut {
	var out []cut
	for from := 0; from < count; {
		to := min(from+1+draw.Intn(most), count)
		out = append(out, cut{from, to})
		from = to
	}
	return out
}

// checkBeginning holds promise 4 of a gather: Done is the stream's beginning as far as all places are there.
func checkBeginning(t *testing.T, g impl.Gather, stream []byte, there []bool) {
	t.Helper()
	reach := slices.Index(append(slices.Clone(there), false), false)
	if !bytes.Equal(g.Done, stream[:reach]) {
		t.Fatalf("Done is %q, want %q", g.Done, stream[:reach])
	}
	if !impl.FitsStream(g, stream) {
		t.Fatalf("%v does not fit its stream %q", g, stream)
	}
	held, last := 0, -1
	for place, is := range there {
		if is {
			held, last = held+1, place
		}
	}
	if got := impl.HoldOf(g).Value; got != int64(held-reach) {
		t.Fatalf("HoldOf(%v) = %d, want %d", g, got, held-reach)
	}
	if got := impl.MissingOf(g).Value; got != int64(last+1-held) {
		t.Fatalf("MissingOf(%v) = %d, want %d", g, got, last+1-held)
	}
}

// putCuts puts parts of a stream one by one and asks all of promise 4 each time.
func putCuts(t *testing.T, stream []byte, cuts []cut) impl.Gather {
	t.Helper()
	var g impl.Gather
	there := make([]bool, len(stream))
	for _, c := range cuts {
		g = checkPut(t, g, int64(c.from), stream[c.from:c.to])
		for place := c.from; place < c.to; place++ {
			there[place] = true
		}
		checkBeginning(t, g, stream, there)
	}
	return g
}

// strayCuts lie anywhere, over the borders of others, and some have no bytes.
func strayCuts(draw *rand.Rand, count int) []cut {
	var out []cut
	for range 10 {
		from := draw.Intn(count + 1)
		out = append(out, cut{from, min(from+draw.Intn(12), count)})
	}
	return out
}

// withinPieces leaves out what would make more pieces than there may be.
func withinPieces(cuts []cut) []cut {
	var out []cut
	row := emptyRow()
	for _, c := range cuts {
		tried := row
		for place := c.from; place < c.to; place++ {
			tried[place] = 1
		}
		if len(tried.gather().Pieces) <= 40 {
			row = tried
			out = append(out, c)
		}
	}
	return out
}

func TestPromise4AnyOrderHoweverOften(t *testing.T) {
	draw := rand.New(rand.NewSource(44))
	for _, count := range []int{0, 1, 2, 9, 60, 399, 400} {
		stream := make([]byte, count)
		draw.Read(stream)
		for range 20 {
			cuts := cutsOf(draw, count, 1+count/20)
			mixed := slices.Concat(cuts, cuts, strayCuts(draw, count))
			draw.Shuffle(len(mixed), func(i int, j int) { mixed[i], mixed[j] = mixed[j], mixed[i] })
			g := putCuts(t, stream, append(withinPieces(mixed), cuts...))
			if !bytes.Equal(g.Done, stream) || len(g.Pieces) != 0 {
				t.Fatalf("all parts of a stream of %d bytes make %v", count, g)
			}
		}
	}
}

// ordersOf are all orders of the numbers below count.
func ordersOf(count int) [][]int {
	if count == 0 {
		return [][]int{{}}
	}
	var out [][]int
	for _, order := range ordersOf(count - 1) {
		for i := 0; i <= len(order); i++ {
			out = append(out, slices.Insert(slices.Clone(order), i, count-1))
		}
	}
	return out
}

// Each cut of a short stream, in each order.
func TestPromise4EachCutEachOrder(t *testing.T) {
	stream := []byte("hello")
	for borders := range 1 << 4 {
		var cuts []cut
		from := 0
		for place := 1; place <= len(stream); place++ {
			if place == len(stream) || borders>>(place-1)&1 == 1 {
				cuts = append(cuts, cut{from, place})
				from = place
			}
		}
		for _, order := range ordersOf(len(cuts)) {
			var put []cut
			for _, i := range order {
				put = append(put, cuts[i], cuts[order[0]])
			}
			if g := putCuts(t, stream, put); !bytes.Equal(g.Done, stream) || len(g.Pieces) != 0 {
				t.Fatalf("%v in the order %v make %v", cuts, order, g)
			}
		}
	}
}

// Whatever was put first stays, where later pieces have other bytes at its places.
func TestPromise4OtherBytesLater(t *testing.T) {
	draw := rand.New(rand.NewSource(444))
	for range 100 {
		var g impl.Gather
		row := emptyRow()
		for range 30 {
			from := draw.Intn(80)
			data := make([]byte, draw.Intn(20))
			draw.Read(data)
			g = checkPut(t, g, int64(from), data)
			for i, b := range data {
				if row[from+i] < 0 {
					row[from+i] = int(b)
				}
			}
			if !sameGather(g, row.gather()) {
				t.Fatalf("the gather is %v, want %v", g, row.gather())
			}
		}
	}
}

// keptGather is a gather with room behind each list, and what stands in all of it.
type keptGather struct {
	g     impl.Gather
	backs [][]byte
	kept  [][]byte
	row   []impl.Piece
	heads []impl.Piece
}

func keepGather(g impl.Gather) keptGather {
	var k keptGather
	room := func(list []byte) []byte {
		back, part := roomy(list)
		k.backs = append(k.backs, back)
		k.kept = append(k.kept, slices.Clone(back))
		return part
	}
	k.g.Done = room(g.Done)
	for _, p := range g.Pieces {
		k.row = append(k.row, impl.Piece{At: p.At, Data: room(p.Data)})
	}
	k.row = append(k.row, impl.Piece{At: 71, Data: room([]byte("behind"))}, impl.Piece{At: 72})
	k.heads = slices.Clone(k.row)
	k.g.Pieces = k.row[:len(g.Pieces)]
	return k
}

func (k keptGather) check(t *testing.T, what string) {
	t.Helper()
	for i, back := range k.backs {
		if !bytes.Equal(back, k.kept[i]) {
			t.Fatalf("%s: the list %d of %v is changed: %v, was %v", what, i, k.g, back, k.kept[i])
		}
	}
	if !samePieces(k.row, k.heads) {
		t.Fatalf("%s: Pieces are changed: %v, were %v", what, k.row, k.heads)
	}
}

func TestPromise1GathersAreNotChanged(t *testing.T) {
	for _, g := range allGathers() {
		k := keepGather(g)
		for _, at := range []int64{-1, 0, 1, 3, 4, 8, 80, 81, 200, 399, 400} {
			for _, size := range []int{0, 1, 2, 9, 300} {
				back, data := roomy(lettersOf(size))
				kept := slices.Clone(back)
				impl.PutPiece(k.g, at, data)
				impl.HasByte(k.g, at)
				impl.FitsStream(k.g, data)
				if !bytes.Equal(back, kept) {
					t.Fatalf("data at %d is changed: %v, was %v", at, back, kept)
				}
			}
		}
		stream := streamOf(g)
		kept := slices.Clone(stream)
		impl.FitsStream(k.g, stream)
		if !bytes.Equal(stream, kept) {
			t.Fatalf("the stream is changed: %v, was %v", stream, kept)
		}
		impl.GatherFault(k.g)
		impl.HoldOf(k.g)
		impl.MissingOf(k.g)
		k.check(t, "asked")
	}
}

// spoilGather writes over all of an answer and over the room behind its lists.
func spoilGather(g impl.Gather) {
	spoil(g.Done)
	all := g.Pieces[:cap(g.Pieces)]
	for i := range all {
		spoil(all[i].Data)
		all[i] = impl.Piece{At: -7, Data: []byte("spoilt")}
	}
}

func TestPromise1GathersAreNewMemory(t *testing.T) {
	for _, g := range append(rightGathers(), drawnGathers(60)...) {
		for _, at := range []int64{0, 1, 3, 4, 8, 9, 79, 200, 399, 400} {
			for _, size := range []int{0, 1, 3, 60} {
				k := keepGather(g)
				back, data := roomy(lettersOf(size))
				kept := slices.Clone(back)
				got := impl.PutPiece(k.g, at, data)
				spoilGather(got.Gather)
				k.check(t, "an answer was written over")
				if !bytes.Equal(back, kept) {
					t.Fatalf("what is answered of %v shares memory with the data at %d", g, at)
				}
				if again := impl.PutPiece(k.g, at, data); !samePut(again, putModel(g, at, data)) {
					t.Fatalf("an answer that was written over is told again: %v", again)
				}
			}
		}
	}
}

// No two lists of one answer share memory, not even the room behind them.
func TestPromise1ListsOfOneGatherAreApart(t *testing.T) {
	for _, g := range append(rightGathers(), drawnGathers(60)...) {
		for _, at := range []int64{0, 2, 7, 200} {
			want := putModel(g, at, []byte("qrs"))
			lists := len(want.Gather.Pieces) + 1
			for spoilt := range lists {
				got := impl.PutPiece(g, at, []byte("qrs")).Gather
				wish := impl.Gather{Done: slices.Clone(want.Gather.Done), Pieces: slices.Clone(want.Gather.Pieces)}
				if spoilt == 0 {
					spoil(got.Done)
					got.Done, wish.Done = nil, nil
				} else {
					spoil(got.Pieces[spoilt-1].Data)
					got.Pieces[spoilt-1].Data, wish.Pieces[spoilt-1].Data = nil, nil
				}
				if !sameGather(got, wish) {
					t.Fatalf("PutPiece(%v, %d): the list %d shares memory with another one", g, at, spoilt)
				}
			}
		}
	}
}

func TestPromise1GathersSameArgumentsSameAnswers(t *testing.T) {
	type answer struct {
		put           impl.GatherResult
		hold, missing impl.IntResult
		fault         int64
		has, fits     bool
	}
	gathers := allGathers()
	ask := func() (out []answer) {
		for i, g := range gathers {
			at := int64(len(g.Done)+len(g.Pieces)) % 400
			a := answer{put: impl.PutPiece(g, at, []byte("again")), hold: impl.HoldOf(g), missing: impl.MissingOf(g), fault: impl.GatherFault(g), has: impl.HasByte(g, at), fits: impl.FitsStream(g, streamOf(g))}
			out = append(out, a)
			if i%2 == 0 {
				spoilGather(impl.PutPiece(g, at, []byte("between")).Gather)
			}
		}
		return out
	}
	first := ask()
	for range 5 {
		slices.Reverse(gathers)
		slices.Reverse(first)
		for i, a := range ask() {
			b := first[i]
			if !samePut(a.put, b.put) || a.hold != b.hold || a.missing != b.missing || a.fault != b.fault || a.has != b.has || a.fits != b.fits {
				t.Fatalf("%v is answered as %v once and as %v then", gathers[i], b, a)
			}
		}
	}
}

// nil and an empty list are the same value, wherever a list comes in.
func TestPromise1EmptyGathersAndNil(t *testing.T) {
	rows := []struct{ a, b impl.Gather }{
		{impl.Gather{}, impl.Gather{Done: []byte{}, Pieces: []impl.Piece{}}},
		{impl.Gather{Pieces: []impl.Piece{piece(4, "x")}}, impl.Gather{Done: []byte{}, Pieces: []impl.Piece{piece(4, "x")}}},
		{impl.Gather{Done: []byte("ab")}, impl.Gather{Done: []byte("ab"), Pieces: []impl.Piece{}}},
		{impl.Gather{Pieces: []impl.Piece{{At: 4}}}, impl.Gather{Pieces: []impl.Piece{{At: 4, Data: []byte{}}}}},
	}
	for _, row := range rows {
		for _, at := range []int64{-1, 0, 2, 4, 400, 401} {
			for _, data := range [][]byte{nil, {}, []byte("q")} {
				if !samePut(impl.PutPiece(row.a, at, data), impl.PutPiece(row.b, at, data)) {
					t.Errorf("PutPiece at %d tells %v and %v apart", at, row.a, row.b)
				}
			}
			if !samePut(impl.PutPiece(row.a, at, nil), impl.PutPiece(row.a, at, []byte{})) {
				t.Errorf("PutPiece of nil at %d is not that of no bytes", at)
			}
			if impl.HasByte(row.a, at) != impl.HasByte(row.b, at) {
				t.Errorf("HasByte at %d tells %v and %v apart", at, row.a, row.b)
			}
		}
		if impl.GatherFault(row.a) != impl.GatherFault(row.b) || impl.HoldOf(row.a) != impl.HoldOf(row.b) || impl.MissingOf(row.a) != impl.MissingOf(row.b) || impl.FitsStream(row.a, nil) != impl.FitsStream(row.b, []byte{}) {
			t.Errorf("%v and %v are told apart", row.a, row.b)
		}
	}
}
