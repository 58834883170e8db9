package tests

import (
	"bytes"
	"math/rand"
	"slices"
	"testing"

	"loop.example/g00230/impl"
)

func flightEndOf(f impl.Flight) int64 { return f.At + int64(len(f.Load)) }

// ackAt tells a sender that all came there up to a place.
func ackAt(s impl.Sender, place int64) impl.SenderResult {
	return impl.AckSender(s, impl.SeqOf(s, place).Value)
}

func hasFlightAt(s impl.Sender, at int64) bool {
	return slices.ContainsFunc(s.Flights, func(f impl.Flight) bool { return f.At == at })
}

// checkPushed holds what was pushed against all that it was pushed with, and all else against what was there.
func checkPushed(t *testing.T, s impl.Sender, data int64, load []byte, now int64) impl.Sender {
	t.Helper()
	got := impl.PushFlight(s, data, load, now)
	count := len(s.Flights)
	if got.Code != impl.OK || len(got.Sender.Flights) != count+1 || impl.SenderFault(got.Sender) != impl.OK {
		t.Fatalf("PushFlight(%+v, %d, %q, %d) = %+v", s, data, load, now, got)
	}
	pushed := got.Sender
	last := impl.Flight{At: s.Next, Data: data, Load: load, Sent: now, Tries: 1}
	if !sameFlight(pushed.Flights[count], last) || !slices.EqualFunc(pushed.Flights[:count], s.Flights, sameFlight) {
		t.Fatalf("behind %+v a flight at %d is %+v", s.Flights, s.Next, pushed.Flights)
	}
	if pushed.Start != s.Start || pushed.Acked != s.Acked || pushed.Next != s.Next+int64(len(load)) {
		t.Fatalf("pushed to %+v it is %+v", s, pushed)
	}
	if more := impl.OnWay(pushed).Value - impl.OnWay(s).Value; more != int64(len(load)) {
		t.Fatalf("of %d bytes OnWay is more by %d", len(load), more)
	}
	return pushed
}

func TestPromise6PushedIsOnItsWayAndGoneOnceAcked(t *testing.T) {
	for _, s := range append(rightSenders(), drawnSenders(200)...) {
		if len(s.Flights) == impl.MaxFlights {
			continue
		}
		for size := 1; size <= impl.MaxLoad; size++ {
			if s.Next+int64(size) > 1000000 {
				continue
			}
			at := s.Next
			pushed := checkPushed(t, s, 17, lettersOf(size), 23)
			for _, place := range append([]int64{s.Acked, at}, endsOf(s)...) {
				ahead := ackAt(pushed, place)
				if ahead.Code != impl.OK || !hasFlightAt(ahead.Sender, at) || impl.OnWay(ahead.Sender).Value != pushed.Next-place {
					t.Fatalf("an ack of %d leaves of %+v %+v", place, pushed, ahead)
				}
			}
			for place := at + 1; place < pushed.Next; place++ {
				if got := ackAt(pushed, place); !sameSent(got, impl.SenderResult{Code: impl.ErrForm}) {
					t.Fatalf("an ack of %d within the flight at %d: %+v", place, at, got)
				}
			}
			end := ackAt(pushed, pushed.Next)
			if !sameSent(end, impl.SenderResult{Sender: impl.Sender{Start: s.Start, Next: pushed.Next, Acked: pushed.Next}}) {
				t.Fatalf("an ack of the end %d leaves of %+v %+v", pushed.Next, pushed, end)
			}
			if got := ackAt(pushed, min(pushed.Next+1, 1000000)); pushed.Next < 1000000 && !sameSent(got, impl.SenderResult{Code: impl.ErrRange}) {
				t.Fatalf("an ack above Next %d: %+v", pushed.Next, got)
			}
		}
	}
}

func endsOf(s impl.Sender) (ends []int64) {
	for _, f := range s.Flights {
		ends = append(ends, flightEndOf(f))
	}
	return ends
}

// Each end takes just the flights up to it; what is left is as it was.
func TestPromise6EachEndOfManyFlights(t *testing.T) {
	for _, s := range append(rightSenders(), drawnSenders(200)...) {
		for i, end := range endsOf(s) {
			got := ackAt(s, end)
			want := impl.Sender{Start: s.Start, Next: s.Next, Acked: end, Flights: s.Flights[i+1:]}
			if !sameSent(got, impl.SenderResult{Sender: want}) {
				t.Fatalf("AckSender(%+v) of the end %d = %+v", s, end, got)
			}
		}
	}
}

func TestPromise6OldAcksChangeNothing(t *testing.T) {
	for _, s := range append(rightSenders(), drawnSenders(200)...) {
		for _, back := range []int64{0, 1, 2, 7, 8, 96, 1000, 32767, 32768} {
			place := s.Acked - back
			if place < 0 {
				number := (s.Start + place + 65536*16) % 65536
				if got := impl.AckSender(s, number); !sameSent(got, impl.SenderResult{Code: impl.ErrNone}) {
					t.Fatalf("AckSender(%+v, %d) = %+v, there is no place %d", s, number, got, place)
				}
				continue
			}
			if got := ackAt(s, place); !sameSent(got, impl.SenderResult{Sender: s}) {
				t.Fatalf("an old ack of %d makes of %+v %+v", place, s, got)
			}
		}
	}
}

// Whatever number is told, Acked never falls, and it goes no further than Next.
func TestPromise6AckedOnlyGrows(t *testing.T) {
	draw := rand.New(rand.NewSource(6))
	for _, s := range append(rightSenders(), drawnSenders(100)...) {
		for range 200 {
			ack := draw.Int63n(65536)
			if draw.Intn(3) > 0 {
				ack = s.Start + s.Acked - 10 + draw.Int63n(s.Next-s.Acked+20)
			}
			got := impl.AckSender(s, ack)
			if got.Code != impl.OK {
				continue
			}
			x := got.Sender
			if x.Acked < s.Acked || x.Acked > s.Next || x.Next != s.Next || x.Start != s.Start || impl.SenderFault(x) != impl.OK {
				t.Fatalf("AckSender(%+v, %d) = %+v", s, ack, got)
			}
			if !slices.EqualFunc(x.Flights, s.Flights[len(s.Flights)-len(x.Flights):], sameFlight) {
				t.Fatalf("AckSender(%+v, %d) leaves %+v", s, ack, x.Flights)
			}
		}
	}
}

// A sender that begins near where numbers go round is used to its last place: acks come late, twice, and of the newest alone.
func TestPromise6ALongWay(t *testing.T) {
	draw := rand.New(rand.NewSource(66))
	for _, start := range []int64{65530, 65535, 1} {
		s := impl.StartSender(start).Sender
		acked, refused := int64(0), 0
		for s.Next < 1000000 && refused < 1000 {
			size := 1 + draw.Intn(8)
			got := impl.PushFlight(s, draw.Int63n(392), lettersOf(size), draw.Int63n(1000001))
			switch got.Code {
			case impl.OK:
				s = got.Sender
				refused = 0
			case impl.ErrMany, impl.ErrRange:
				refused++
			default:
				t.Fatalf("PushFlight(%+v) = %+v", s, got)
			}
			if draw.Intn(3) == 0 || len(s.Flights) == impl.MaxFlights {
				ends := append(endsOf(s), acked, max(0, acked-3))
				told := ackAt(s, ends[draw.Intn(len(ends))])
				if told.Code != impl.OK || told.Sender.Acked < acked || impl.SenderFault(told.Sender) != impl.OK {
					t.Fatalf("of %+v: %+v", s, told)
				}
				s = told.Sender
				acked = s.Acked
			}
		}
		if last := ackAt(s, s.Next); s.Next < 999990 || last.Sender.Acked != s.Next || len(last.Sender.Flights) != 0 {
			t.Errorf("from %d on it ends at %+v, then %+v", start, s, last)
		}
	}
}

func TestPromise6DueWasSentLongEnoughAgo(t *testing.T) {
	for _, s := range append(rightSenders(), drawnSenders(200)...) {
		for now := int64(0); now <= 50; now++ {
			for wait := int64(0); wait <= 12; wait++ {
				due := impl.DueFlights(s, now, wait)
				if due.Code != impl.OK || !slices.IsSorted(due.List) {
					t.Fatalf("DueFlights(%+v, %d, %d) = %+v", s, now, wait, due)
				}
				count := 0
				for i, f := range s.Flights {
					isDue := now-f.Sent >= wait
					if isDue {
						count++
					}
					if slices.Contains(due.List, int64(i)) != isDue {
						t.Fatalf("DueFlights(%+v, %d, %d) = %v, the flight %d was sent at %d", s, now, wait, due.List, i, f.Sent)
					}
				}
				if len(due.List) != count {
					t.Fatalf("DueFlights(%+v, %d, %d) = %v, want %d of them", s, now, wait, due.List, count)
				}
			}
		}
	}
}

// What was touched is sent anew: it is not due again until the wait is over.
func TestPromise6TouchedIsOfJustThatFlight(t *testing.T) {
	for _, s := range append(rightSenders(), drawnSenders(200)...) {
		for i := range s.Flights {
			for _, now := range []int64{0, 1, 40, 999996} {
				got := impl.TouchFlight(s, int64(i), now)
				want := cloneSender(s)
				want.Flights[i].Sent = now
				want.Flights[i].Tries = min(s.Flights[i].Tries+1, 1000)
				if !sameSent(got, impl.SenderResult{Sender: want}) || impl.SenderFault(got.Sender) != impl.OK {
					t.Fatalf("TouchFlight(%+v, %d, %d) = %+v", s, i, now, got)
				}
				early, late := impl.DueFlights(got.Sender, now+3, 4), impl.DueFlights(got.Sender, now+4, 4)
				if slices.Contains(early.List, int64(i)) || !slices.Contains(late.List, int64(i)) {
					t.Fatalf("touched at %d the flight %d is due: early %v, late %v", now, i, early, late)
				}
			}
		}
	}
}

func TestPromise6ManyTries(t *testing.T) {
	s := senderWith(65535, 70000, flight(0, "ab", 0, 1), flight(2, "cd", 0, 1))
	for now := int64(1); now <= 1100; now++ {
		got := impl.TouchFlight(s, 1, now)
		tries := min(now+1, 1000)
		if got.Code != impl.OK || got.Sender.Flights[1].Tries != tries || got.Sender.Flights[1].Sent != now || impl.SenderFault(got.Sender) != impl.OK {
			t.Fatalf("touched %d times: %+v", now, got)
		}
		if !sameFlight(got.Sender.Flights[0], s.Flights[0]) {
			t.Fatalf("touched %d times the flight ahead is %+v", now, got.Sender.Flights[0])
		}
		s = got.Sender
	}
	if got := ackAt(s, 70004); got.Code != impl.OK || len(got.Sender.Flights) != 0 {
		t.Errorf("a flight of many tries is not gone: %+v", got)
	}
}

// keptSender is a sender with room behind each of its lists, and a copy of all of it.
type keptSender struct {
	s     impl.Sender
	backs [][]byte
	kept  [][]byte
	row   []impl.Flight
	heads []impl.Flight
}

func keepSender(s impl.Sender) keptSender {
	k := keptSender{s: s}
	room := func(list []byte) []byte {
		back, part := roomy(list)
		k.backs = append(k.backs, back)
		k.kept = append(k.kept, slices.Clone(back))
		return part
	}
	for _, f := range s.Flights {
		f.Load = room(f.Load)
		k.row = append(k.row, f)
	}
	k.row = append(k.row, impl.Flight{At: 71, Load: room([]byte("behind"))}, impl.Flight{At: 72})
	for _, f := range k.row {
		f.Load = slices.Clone(f.Load)
		k.heads = append(k.heads, f)
	}
	k.s.Flights = k.row[:len(s.Flights)]
	return k
}

func (k keptSender) check(t *testing.T, what string) {
	t.Helper()
	for i, back := range k.backs {
		if !bytes.Equal(back, k.kept[i]) {
			t.Fatalf("%s: the Load %d of %+v is changed: %v, was %v", what, i, k.s, back, k.kept[i])
		}
	}
	if !slices.EqualFunc(k.row, k.heads, sameFlight) {
		t.Fatalf("%s: Flights are changed: %+v, were %+v", what, k.row, k.heads)
	}
}

func wrongSenders() []impl.Sender {
	return []impl.Sender{
		fullSender(65536, 0, 3, 2), fullSender(0, 0, 13, 2), senderWith(0, 0, flight(0, "", 1, 1)), senderWith(0, 0, flight(0, "123456789", 1, 1)),
		senderWith(0, 0, flight(0, "ab", 1, 1), flight(401, "ab", 1, 1)), {Next: 3},
	}
}

func TestPromise1SendersAreNotChanged(t *testing.T) {
	for _, s := range slices.Concat(rightSenders(), wrongSenders(), drawnSenders(40)) {
		k := keepSender(s)
		for _, size := range []int{0, 1, 8, 9} {
			back, load := roomy(lettersOf(size))
			kept := slices.Clone(back)
			impl.PushFlight(k.s, 3, load, 7)
			if !bytes.Equal(back, kept) {
				t.Fatalf("a load is changed: %v, was %v", back, kept)
			}
		}
		for _, n := range append([]int64{-1, 0, 1, 5, 11, 12, 1000000, 1000001}, endsOf(s)...) {
			impl.AckSender(k.s, s.Start+n)
			impl.DueFlights(k.s, n, 4)
			impl.TouchFlight(k.s, n, 7)
			impl.SeqOf(k.s, n)
		}
		impl.SenderFault(k.s)
		impl.OnWay(k.s)
		k.check(t, "asked")
	}
}

// spoilSender writes over all of an answer and over the room behind its lists.
func spoilSender(s impl.Sender) {
	all := s.Flights[:cap(s.Flights)]
	for i := range all {
		spoil(all[i].Load)
		all[i] = impl.Flight{At: -7, Load: []byte("spoilt"), Tries: -9}
	}
}

// sendersOf are all calls that answer a sender, at a place where they tell no code.
func sendersOf(s impl.Sender, load []byte) map[string]func() impl.SenderResult {
	calls := map[string]func() impl.SenderResult{
		"PushFlight":        func() impl.SenderResult { return impl.PushFlight(s, 3, load, 7) },
		"AckSender, of old": func() impl.SenderResult { return ackAt(s, s.Acked) },
		"AckSender, of all": func() impl.SenderResult { return ackAt(s, s.Next) },
		"StartSender":       func() impl.SenderResult { return impl.StartSender(s.Start) },
	}
	if len(s.Flights) > 0 {
		calls["AckSender, of one"] = func() impl.SenderResult { return ackAt(s, endsOf(s)[0]) }
		calls["TouchFlight"] = func() impl.SenderResult { return impl.TouchFlight(s, 0, 7) }
		calls["TouchFlight, the last"] = func() impl.SenderResult { return impl.TouchFlight(s, int64(len(s.Flights)-1), 7) }
	}
	return calls
}

func TestPromise1SendersAreNewMemory(t *testing.T) {
	for _, s := range append(rightSenders(), drawnSenders(60)...) {
		k := keepSender(s)
		back, load := roomy(lettersOf(5))
		kept := slices.Clone(back)
		for name, call := range sendersOf(k.s, load) {
			got := call()
			was := impl.SenderResult{Code: got.Code, Sender: cloneSender(got.Sender)}
			spoilSender(got.Sender)
			k.check(t, name+" was written over")
			if !bytes.Equal(back, kept) {
				t.Fatalf("%s shares memory with the load", name)
			}
			if again := call(); !sameSent(again, was) {
				t.Fatalf("%s that was written over is told again: %+v, was %+v", name, again, was)
			}
		}
		due := impl.DueFlights(k.s, 50, 0)
		was := impl.IntsResult{Code: due.Code, List: slices.Clone(due.List)}
		for i := range due.List {
			due.List[i] = -7
		}
		if again := impl.DueFlights(k.s, 50, 0); !sameInts(again, was) {
			t.Fatalf("DueFlights that was written over is told again: %+v, was %+v", again, was)
		}
		k.check(t, "DueFlights was written over")
	}
}

// The other way round: an answer stays as it is where an argument is written over.
func TestPromise1SendersStayWhereArgumentsTurn(t *testing.T) {
	for _, s := range append(rightSenders(), drawnSenders(60)...) {
		for name := range sendersOf(s, lettersOf(5)) {
			k, load := keepSender(s), lettersOf(5)
			got := sendersOf(k.s, load)[name]()
			was := impl.SenderResult{Code: got.Code, Sender: cloneSender(got.Sender)}
			for _, back := range append(k.backs, load) {
				spoil(back)
			}
			clear(k.row)
			if !sameSent(got, was) {
				t.Fatalf("%s of %+v turns with its argument: %+v, was %+v", name, s, got, was)
			}
		}
	}
}

// No two lists of one answer share memory, not even the room behind them.
func TestPromise1ListsOfOneSenderAreApart(t *testing.T) {
	for _, s := range append(rightSenders(), drawnSenders(60)...) {
		for name, call := range sendersOf(s, lettersOf(5)) {
			want := call()
			for spoilt := range want.Sender.Flights {
				got, wish := call().Sender, cloneSender(want.Sender)
				spoil(got.Flights[spoilt].Load)
				got.Flights[spoilt].Load, wish.Flights[spoilt].Load = nil, nil
				if !sameSender(got, wish) {
					t.Fatalf("%s of %+v: the Load %d shares memory with another one", name, s, spoilt)
				}
			}
		}
	}
}

func TestPromise1SendersSameArgumentsSameAnswers(t *testing.T) {
	type answer struct {
		push, ack, touch, start impl.SenderResult
		due                     impl.IntsResult
		onWay, seq              impl.IntResult
		fault                   int64
	}
	senders := slices.Concat(rightSenders(), wrongSenders(), drawnSenders(60))
	ask := func() (out []answer) {
		for i, s := range senders {
			a := answer{
				push: impl.PushFlight(s, 3, []byte("again"), 7), ack: impl.AckSender(s, s.Start+s.Next), touch: impl.TouchFlight(s, 0, 9), start: impl.StartSender(s.Start),
				due: impl.DueFlights(s, 20, 4), onWay: impl.OnWay(s), seq: impl.SeqOf(s, 70000), fault: impl.SenderFault(s),
			}
			out = append(out, a)
			if i%2 == 0 {
				spoilSender(impl.PushFlight(s, 3, []byte("between"), 7).Sender)
				spoilSender(impl.TouchFlight(s, 0, 9).Sender)
			}
		}
		return out
	}
	first := ask()
	for range 5 {
		slices.Reverse(senders)
		slices.Reverse(first)
		for i, a := range ask() {
			b := first[i]
			if !sameSent(a.push, b.push) || !sameSent(a.ack, b.ack) || !sameSent(a.touch, b.touch) || !sameSent(a.start, b.start) ||
				!sameInts(a.due, b.due) || a.onWay != b.onWay || a.seq != b.seq || a.fault != b.fault {
				t.Fatalf("%+v is answered as %+v once and as %+v then", senders[i], b, a)
			}
		}
	}
}

// nil and an empty list are the same value, wherever a list comes in.
func TestPromise1EmptySendersAndNil(t *testing.T) {
	rows := []struct{ a, b impl.Sender }{
		{impl.Sender{}, impl.Sender{Flights: []impl.Flight{}}},
		{impl.Sender{Start: 5, Next: 9, Acked: 9}, impl.Sender{Start: 5, Next: 9, Acked: 9, Flights: []impl.Flight{}}},
		{impl.Sender{Next: 9}, impl.Sender{Next: 9, Flights: []impl.Flight{}}},
		{impl.Sender{Flights: []impl.Flight{{Tries: 1}}}, impl.Sender{Flights: []impl.Flight{{Tries: 1, Load: []byte{}}}}},
	}
	for _, row := range rows {
		if impl.SenderFault(row.a) != impl.SenderFault(row.b) || impl.OnWay(row.a) != impl.OnWay(row.b) {
			t.Errorf("%+v and %+v are told apart", row.a, row.b)
		}
		for _, n := range []int64{-1, 0, 1, 9, 14} {
			if !sameSent(impl.AckSender(row.a, n), impl.AckSender(row.b, n)) || !sameSent(impl.TouchFlight(row.a, n, 1), impl.TouchFlight(row.b, n, 1)) ||
				!sameInts(impl.DueFlights(row.a, n, 0), impl.DueFlights(row.b, n, 0)) || impl.SeqOf(row.a, n) != impl.SeqOf(row.b, n) {
				t.Errorf("%+v and %+v are told apart at %d", row.a, row.b, n)
			}
			for _, load := range [][]byte{nil, {}, []byte("q")} {
				if !sameSent(impl.PushFlight(row.a, n, load, 1), impl.PushFlight(row.b, n, load, 1)) {
					t.Errorf("PushFlight tells %+v and %+v apart", row.a, row.b)
				}
			}
			if !sameSent(impl.PushFlight(row.a, n, nil, 1), impl.PushFlight(row.a, n, []byte{}, 1)) {
				t.Errorf("PushFlight of %+v tells nil and an empty load apart", row.a)
			}
		}
	}
}
