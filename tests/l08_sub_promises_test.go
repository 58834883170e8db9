package tests

import (
	"math"
	"math/rand"
	"slices"
	"testing"

	"loop.example/g00230/impl"
)

// checkClosed holds what closing makes of a sub without a fault against the promise, and answers it.
func checkClosed(t *testing.T, x impl.Sub) impl.Sub {
	t.Helper()
	got := impl.CloseSub(x)
	if got.Code != impl.OK || impl.SubFault(got.Sub) != impl.OK || subFaultModel(got.Sub) != impl.OK {
		t.Fatalf("CloseSub(%+v) = %+v, with the fault %d", x, got, impl.SubFault(got.Sub))
	}
	closed := got.Sub
	if closed.State != impl.SubClosed || len(closed.Send.Flights) != 0 || closed.Send.Next != closed.Send.Acked || closed.Send.Acked != x.Send.Acked {
		t.Fatalf("CloseSub(%+v) makes %+v", x, closed)
	}
	nothing := impl.IntResult{}
	if onWay, room, stale := impl.OnWay(closed.Send), impl.RoomOf(closed), impl.StaleOf(closed); onWay != nothing || room != nothing || stale != nothing {
		t.Fatalf("closed %+v has on its way %+v, room %+v, stale %+v", closed, onWay, room, stale)
	}
	if impl.CoversData(closed, 0, 400) {
		t.Fatalf("closed %+v covers a byte", closed)
	}
	stays := closed
	stays.State, stays.Send = x.State, x.Send
	if !sameSub(stays, x) || closed.Send.Start != x.Send.Start {
		t.Fatalf("CloseSub(%+v) turns more than its state and its sender: %+v", x, closed)
	}
	if again := impl.CloseSub(closed); !sameSubs(again, impl.SubResult{Sub: closed}) {
		t.Fatalf("closed again %+v is %+v", closed, again)
	}
	return closed
}

// checkRoom: what is open has the room that its window leaves, as long as one more flight may be on its way.
func checkRoom(t *testing.T, x impl.Sub) int64 {
	t.Helper()
	room := impl.RoomOf(x)
	want := max(0, x.Control.Window-impl.OnWay(x.Send).Value)
	if x.State != impl.SubOpen || len(x.Send.Flights) == impl.MaxFlights {
		want = 0
	}
	if room != (impl.IntResult{Value: want}) {
		t.Fatalf("RoomOf(%+v) = %+v, want %d", x, room, want)
	}
	return room.Value
}

func TestPromise9Closed(t *testing.T) {
	for _, x := range append(rightSubs(), drawnSubs(500)...) {
		checkClosed(t, x)
		checkRoom(t, x)
	}
	for _, path := range []int64{0, 1, 2} {
		for _, start := range []int64{0, 5, 65535} {
			for _, n := range []int64{0, 7, 1000000} {
				x := impl.NewSub(path, start, path > 0, n, n).Sub
				if impl.SubFault(x) != impl.OK || x.State != impl.SubAsked || impl.OnWay(x.Send) != (impl.IntResult{}) || checkRoom(t, x) != 0 {
					t.Fatalf("NewSub(%d, %d, _, %d, %d) = %+v", path, start, n, n, x)
				}
				checkClosed(t, x)
			}
		}
	}
}

// What is closed takes an ack of all that it knows, and no other one; nothing opens it, and nothing of it grows.
func TestPromise9ClosedStaysClosed(t *testing.T) {
	for _, x := range append(rightSubs(), drawnSubs(60)...) {
		closed := checkClosed(t, x)
		for place := max(0, closed.Send.Acked-100); place <= min(1000000, closed.Send.Acked+100); place++ {
			got := impl.AckSub(closed, closed.Send.Start+place, []int64{16})
			want := impl.SubResult{Sub: closed}
			if place > closed.Send.Acked {
				want = impl.SubResult{Code: impl.ErrRange}
			}
			if !sameSubs(got, want) {
				t.Fatalf("an ack of the place %d makes of %+v %+v", place, closed, got)
			}
		}
	}
}

// Each window, with each number of bytes on their way and each number of flights.
func TestPromise9RoomOfEachWindow(t *testing.T) {
	for window := int64(8); window <= 64; window++ {
		for count := 0; count <= impl.MaxFlights; count++ {
			for size := 1; size <= impl.MaxLoad; size++ {
				for _, state := range subStates() {
					x := windowed(subIn(state, fullSender(65530, 0, count, size)), window, 64, 0)
					if state != impl.SubOpen && count > 0 {
						if got := impl.RoomOf(x); got != (impl.IntResult{Code: impl.ErrForm}) {
							t.Fatalf("RoomOf(%+v) = %+v", x, got)
						}
						continue
					}
					room := checkRoom(t, x)
					if room < 0 || room > window || state != impl.SubOpen && room != 0 || count == impl.MaxFlights && room != 0 {
						t.Fatalf("RoomOf(%+v) = %d", x, room)
					}
				}
			}
		}
	}
}

// A path is used for long: it sends as it has room, acks come late and twice, its window falls, and it may be closed at any time.
func TestPromise9ALongWay(t *testing.T) {
	draw := rand.New(rand.NewSource(9))
	full, noRoom := 0, 0
	for i, start := range []int64{0, 65530, 65535} {
		longest := []int64{impl.MaxLoad, 3, 1}[i]
		x := impl.NewSub(1, start, false, 3, 0).Sub
		checkClosed(t, x)
		x.State = impl.SubOpen
		for now := int64(1); now <= 3000; now++ {
			if room := checkRoom(t, x); room > 0 {
				size := 1 + draw.Int63n(min(room, longest))
				x.Send = impl.PushFlight(x.Send, draw.Int63n(401-size), lettersOf(int(size)), now).Sender
			} else if len(x.Send.Flights) == impl.MaxFlights {
				full++
			} else {
				noRoom++
			}
			switch draw.Intn(30) {
			case 0:
				x.Control = impl.FallControl(x.Control).Control
			case 1:
				x.Control = impl.CutControl(x.Control).Control
			case 2, 3, 4, 5, 6:
				x = checkAcked(t, x, append(endsOf(x.Send), x.Send.Acked), draw)
			}
			if impl.SubFault(x) != impl.OK {
				t.Fatalf("%+v has the fault %d", x, impl.SubFault(x))
			}
			checkClosed(t, x)
		}
	}
	if full < 20 || noRoom < 20 {
		t.Errorf("only %d times all flights were on their way, %d times no room was there", full, noRoom)
	}
}

// checkAcked tells a path one of these places, and holds its room and its window against what was there.
func checkAcked(t *testing.T, x impl.Sub, places []int64, draw *rand.Rand) impl.Sub {
	t.Helper()
	place, others := places[draw.Intn(len(places))], drawnOthers(draw)
	got := impl.AckSub(x, x.Send.Start+place, others)
	want := cloneSub(x)
	want.Send = ackAt(x.Send, place).Sender
	if more := place - x.Send.Acked; more > 0 {
		want.Control = impl.GrowControl(x.Control, more, others).Control
	}
	if !sameSubs(got, impl.SubResult{Sub: want}) || got.Sub.Control.Window < x.Control.Window {
		t.Fatalf("AckSub(%+v) of the place %d beside %v = %+v, want %+v", x, place, others, got, want)
	}
	return got.Sub
}

// keptSub is a sub with room behind each of its lists, and a copy of all of it.
type keptSub struct {
	x     impl.Sub
	send  keptSender
	catch keptCatch
}

func keepSub(x impl.Sub) keptSub {
	k := keptSub{x: x, send: keepSender(x.Send), catch: keepCatch(x.Catch)}
	k.x.Send, k.x.Catch = k.send.s, k.catch.c
	return k
}

func (k keptSub) check(t *testing.T, what string) {
	t.Helper()
	k.send.check(t, what)
	k.catch.check(t, what)
}

func everySub() []impl.Sub {
	return slices.Concat(rightSubs(), wrongSubs(), drawnSubs(60))
}

// keptOthers is a list of others with room behind it, and a copy of both.
func keptOthers(others []int64) (part []int64, check func(t *testing.T, what string)) {
	back := append(slices.Clone(others), 16, -77, 9)
	kept := slices.Clone(back)
	return back[:len(others)], func(t *testing.T, what string) {
		t.Helper()
		if !slices.Equal(back, kept) {
			t.Fatalf("%s: others are changed: %v, were %v", what, back, kept)
		}
	}
}

func TestPromise1SubsAreNotChanged(t *testing.T) {
	for _, x := range everySub() {
		k := keepSub(x)
		for _, set := range [][]int64{nil, {}, {16}, {64, 8, 9}, {16, 16, 16, 16}, {7}} {
			others, check := keptOthers(set)
			for _, place := range append([]int64{-1, 0, 1, x.Send.Acked, x.Send.Next, math.MaxInt64}, endsOf(x.Send)...) {
				impl.AckSub(k.x, x.Send.Start+place, others)
				impl.CoversData(k.x, place, place)
				impl.CoversData(k.x, 0, place)
			}
			check(t, "AckSub")
		}
		impl.SubFault(k.x)
		impl.RoomOf(k.x)
		impl.StaleOf(k.x)
		impl.CloseSub(k.x)
		k.check(t, "asked")
	}
}

// spoilSub writes over all of an answer and over the room behind its lists.
func spoilSub(x impl.Sub) {
	spoilSender(x.Send)
	spoilCatch(x.Catch)
}

// subsOf are calls that answer a sub: what changes nothing, and what changes much.
func subsOf(x impl.Sub) map[string]func() impl.SubResult {
	ack := func(place int64) func() impl.SubResult {
		return func() impl.SubResult { return impl.AckSub(x, x.Send.Start+place, []int64{16}) }
	}
	calls := map[string]func() impl.SubResult{
		"NewSub":           func() impl.SubResult { return impl.NewSub(x.Path, x.Send.Start, x.Join, x.Nonce, x.Sent) },
		"CloseSub":         func() impl.SubResult { return impl.CloseSub(x) },
		"AckSub, of old":   ack(x.Send.Acked),
		"AckSub, of all":   ack(x.Send.Next),
		"AckSub, of wrong": ack(x.Send.Next + 1),
	}
	if ends := endsOf(x.Send); len(ends) > 0 {
		calls["AckSub, of one"] = ack(ends[0])
	}
	return calls
}

func TestPromise1SubsAreNewMemory(t *testing.T) {
	for _, x := range everySub() {
		k := keepSub(x)
		for name, call := range subsOf(k.x) {
			got := call()
			was := impl.SubResult{Code: got.Code, Sub: cloneSub(got.Sub)}
			spoilSub(got.Sub)
			k.check(t, name+" was written over")
			if again := call(); !sameSubs(again, was) {
				t.Fatalf("%s that was written over is told again: %+v, was %+v", name, again, was)
			}
		}
	}
}

// The other way round: an answer stays as it is where an argument is written over.
func TestPromise1SubsStayWhereArgumentsTurn(t *testing.T) {
	for _, x := range everySub() {
		for name := range subsOf(x) {
			k := keepSub(x)
			got := subsOf(k.x)[name]()
			was := impl.SubResult{Code: got.Code, Sub: cloneSub(got.Sub)}
			for _, back := range k.send.backs {
				spoil(back)
			}
			clear(k.send.row)
			clear(k.catch.row)
			if !sameSubs(got, was) {
				t.Fatalf("%s of %+v turns with its argument: %+v, was %+v", name, x, got, was)
			}
		}
	}
}

// No two lists of one answer share memory, not even the room behind them.
func TestPromise1ListsOfOneSubAreApart(t *testing.T) {
	for _, x := range append(rightSubs(), drawnSubs(60)...) {
		for name, call := range subsOf(x) {
			want := call()
			for spoilt := range want.Sub.Send.Flights {
				got, wish := call().Sub, cloneSub(want.Sub)
				spoil(got.Send.Flights[spoilt].Load)
				got.Send.Flights[spoilt].Load, wish.Send.Flights[spoilt].Load = nil, nil
				if !sameSub(got, wish) {
					t.Fatalf("%s of %+v: the Load %d shares memory with another one", name, x, spoilt)
				}
			}
			got, wish := call().Sub, cloneSub(want.Sub)
			spoilCatch(got.Catch)
			got.Catch, wish.Catch = impl.Catch{}, impl.Catch{}
			if !sameSub(got, wish) {
				t.Fatalf("%s of %+v: Spans share memory with another list", name, x)
			}
		}
	}
}

func TestPromise1SubsSameArgumentsSameAnswers(t *testing.T) {
	type answer struct {
		begun, ack, all, closed impl.SubResult
		room, stale             impl.IntResult
		covers                  bool
		fault                   int64
	}
	subs := everySub()
	ask := func() (out []answer) {
		for i, x := range subs {
			out = append(out, answer{
				begun: impl.NewSub(x.Path, x.Send.Start, x.Join, x.Nonce, x.Sent), ack: impl.AckSub(x, 14, []int64{9}), all: impl.AckSub(x, x.Send.Start+x.Send.Next, nil), closed: impl.CloseSub(x),
				room: impl.RoomOf(x), stale: impl.StaleOf(x), covers: impl.CoversData(x, 20, 30), fault: impl.SubFault(x),
			})
			if i%2 == 0 {
				spoilSub(impl.CloseSub(x).Sub)
				spoilSub(impl.AckSub(x, x.Send.Start+x.Send.Acked, nil).Sub)
			}
		}
		return out
	}
	first := ask()
	for range 5 {
		slices.Reverse(subs)
		slices.Reverse(first)
		for i, a := range ask() {
			b := first[i]
			if !sameSubs(a.begun, b.begun) || !sameSubs(a.ack, b.ack) || !sameSubs(a.all, b.all) || !sameSubs(a.closed, b.closed) ||
				a.room != b.room || a.stale != b.stale || a.covers != b.covers || a.fault != b.fault {
				t.Fatalf("%+v is answered as %+v once and as %+v then", subs[i], b, a)
			}
		}
	}
}

// nil and an empty list are the same value, wherever a list comes in.
func TestPromise1EmptySubsAndNil(t *testing.T) {
	for _, x := range everySub() {
		for _, ack := range []int64{-1, x.Send.Start + x.Send.Acked, x.Send.Start + x.Send.Next} {
			if !sameSubs(impl.AckSub(x, ack, nil), impl.AckSub(x, ack, []int64{})) {
				t.Fatalf("AckSub(%+v, %d) tells nil and no others apart", x, ack)
			}
		}
		if len(x.Send.Flights) > 0 {
			continue
		}
		a, b := cloneSub(x), cloneSub(x)
		a.Send.Flights, b.Send.Flights = nil, []impl.Flight{}
		a.Catch.Spans, b.Catch.Spans = nil, []impl.Span{}
		if impl.SubFault(a) != impl.SubFault(b) || impl.RoomOf(a) != impl.RoomOf(b) || impl.StaleOf(a) != impl.StaleOf(b) || impl.CoversData(a, 0, 400) != impl.CoversData(b, 0, 400) ||
			!sameSubs(impl.CloseSub(a), impl.CloseSub(b)) || !sameSubs(impl.AckSub(a, 9, nil), impl.AckSub(b, 9, nil)) {
			t.Fatalf("%+v and %+v are told apart", a, b)
		}
	}
}

// Every function answers at every argument, one wrong beside another, and with a code all else is zero.
func TestPromise1SubsAnswerEverywhere(t *testing.T) {
	numbers := aroundOf(0, 5, 400, 65535, 1000000)
	zero := func(x impl.Sub, got impl.SubResult) {
		if got.Code != impl.OK && !sameSubs(got, impl.SubResult{Code: got.Code}) || got.Code == impl.OK && impl.SubFault(got.Sub) != impl.OK {
			t.Fatalf("of %+v: %+v", x, got)
		}
	}
	turnedSubs(func(x impl.Sub) {
		for _, n := range numbers[:8] {
			zero(x, impl.AckSub(x, n, []int64{n}))
			impl.CoversData(x, n, n)
		}
		zero(x, impl.CloseSub(x))
		zero(x, impl.NewSub(x.Path, x.Send.Start, x.Join, x.Nonce, x.Sent))
		if room := impl.RoomOf(x); room.Code != impl.OK && room.Value != 0 || room.Value < 0 || room.Value > 64 {
			t.Fatalf("RoomOf(%+v) = %+v", x, room)
		}
		if stale := impl.StaleOf(x); stale.Code != impl.OK && stale.Value != 0 || stale.Value < 0 || stale.Value > 12 {
			t.Fatalf("StaleOf(%+v) = %+v", x, stale)
		}
	})
	for _, x := range everySub() {
		for _, n := range numbers {
			for _, others := range [][]int64{nil, {n}, {16, n, 16}, {8, 8, 8, n}} {
				zero(x, impl.AckSub(x, n, others))
			}
			for _, m := range numbers {
				impl.CoversData(x, n, m)
			}
		}
	}
}
