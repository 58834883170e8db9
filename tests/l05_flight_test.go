package tests

import (
	"bytes"
	"math"
	"math/big"
	"math/rand"
	"slices"
	"testing"

	"loop.example/g00230/impl"
)

func flight(data int64, load string, sent int64, tries int64) impl.Flight {
	return impl.Flight{Data: data, Load: []byte(load), Sent: sent, Tries: tries}
}

// senderWith lays the flights one behind the other, from what came there on.
func senderWith(start int64, acked int64, flights ...impl.Flight) impl.Sender {
	s := impl.Sender{Start: start, Next: acked, Acked: acked}
	for _, f := range flights {
		f.At = s.Next
		s.Next += int64(len(f.Load))
		s.Flights = append(s.Flights, f)
	}
	return s
}

// fullSender has so many flights of so many bytes, each of a Sent and Tries of its own.
func fullSender(start int64, acked int64, count int, size int) impl.Sender {
	var flights []impl.Flight
	for i := range int64(count) {
		load := bytes.Repeat([]byte{byte('a' + i)}, size)
		flights = append(flights, flight(i*int64(size), string(load), 10+3*i, 1+i))
	}
	return senderWith(start, acked, flights...)
}

func addUp(parts ...int64) *big.Int {
	sum := new(big.Int)
	for _, part := range parts {
		sum.Add(sum, whole(part))
	}
	return sum
}

func above(sum *big.Int, bound int64) bool { return sum.Cmp(whole(bound)) > 0 }

// senderFaultModel adds up without any bounds on what is added.
func senderFaultModel(s impl.Sender) int64 {
	switch {
	case s.Start < 0, s.Start > 65535, s.Next < 0, s.Next > 1000000, s.Acked < 0, s.Acked > s.Next:
		return impl.ErrRange
	case len(s.Flights) >= 13:
		return impl.ErrMany
	}
	end := whole(s.Acked)
	for _, f := range s.Flights {
		size := int64(len(f.Load))
		switch {
		case f.Data < 0, f.Data > 400, f.Sent < 0, f.Sent > 1000000, f.Tries < 1, f.Tries > 1000, above(addUp(f.Data, size), 400):
			return impl.ErrRange
		case size == 0, size >= 9, end.Cmp(whole(f.At)) != 0:
			return impl.ErrForm
		}
		end = addUp(f.At, size)
	}
	if end.Cmp(whole(s.Next)) != 0 {
		return impl.ErrForm
	}
	return impl.OK
}

func cloneSender(s impl.Sender) impl.Sender {
	s.Flights = slices.Clone(s.Flights)
	for i := range s.Flights {
		s.Flights[i].Load = slices.Clone(s.Flights[i].Load)
	}
	return s
}

func startSenderModel(start int64) impl.SenderResult {
	if start < 0 || start > 65535 {
		return impl.SenderResult{Code: impl.ErrRange}
	}
	return impl.SenderResult{Sender: impl.Sender{Start: start}}
}

func pushModel(s impl.Sender, data int64, load []byte, now int64) impl.SenderResult {
	size := int64(len(load))
	code := senderFaultModel(s)
	switch {
	case code != impl.OK:
	case size < 1, size > 8:
		code = impl.ErrForm
	case data < 0, data > 400, now < 0, now > 1000000, above(addUp(data, size), 400), above(addUp(s.Next, size), 1000000):
		code = impl.ErrRange
	case len(s.Flights) >= 12:
		code = impl.ErrMany
	}
	if code != impl.OK {
		return impl.SenderResult{Code: code}
	}
	pushed := cloneSender(s)
	pushed.Next = s.Next + size
	pushed.Flights = append(pushed.Flights, impl.Flight{At: s.Next, Data: data, Load: slices.Clone(load), Sent: now, Tries: 1})
	return impl.SenderResult{Sender: pushed}
}

// ackModel takes a flight as its places: it is gone if all of them lie below the ack, and split if only some do.
func ackModel(s impl.Sender, ack int64) impl.SenderResult {
	if fault := senderFaultModel(s); fault != impl.OK {
		return impl.SenderResult{Code: fault}
	}
	place := s.Acked + aheadModel(s.Start+s.Acked, ack)
	switch {
	case place < 0:
		return impl.SenderResult{Code: impl.ErrNone}
	case place > s.Next:
		return impl.SenderResult{Code: impl.ErrRange}
	}
	acked := impl.Sender{Start: s.Start, Next: s.Next, Acked: max(place, s.Acked)}
	for _, f := range s.Flights {
		below := 0
		for i := range f.Load {
			if f.At+int64(i) < place {
				below++
			}
		}
		if below == 0 {
			acked.Flights = append(acked.Flights, f)
		} else if below < len(f.Load) {
			return impl.SenderResult{Code: impl.ErrForm}
		}
	}
	return impl.SenderResult{Sender: cloneSender(acked)}
}

func dueModel(s impl.Sender, now int64, wait int64) impl.IntsResult {
	if fault := senderFaultModel(s); fault != impl.OK {
		return impl.IntsResult{Code: fault}
	}
	if now < 0 || now > 1000000 || wait < 0 || wait > 1000000 {
		return impl.IntsResult{Code: impl.ErrRange}
	}
	var list []int64
	for i := range s.Flights {
		if s.Flights[i].Sent+wait <= now {
			list = append(list, int64(i))
		}
	}
	return impl.IntsResult{List: list}
}

func touchModel(s impl.Sender, i int64, now int64) impl.SenderResult {
	code := senderFaultModel(s)
	switch {
	case code != impl.OK:
	case i < 0, i > int64(len(s.Flights))-1:
		code = impl.ErrNone
	case now < 0, now > 1000000:
		code = impl.ErrRange
	}
	if code != impl.OK {
		return impl.SenderResult{Code: code}
	}
	touched := cloneSender(s)
	touched.Flights[i].Sent = now
	if touched.Flights[i].Tries < 1000 {
		touched.Flights[i].Tries++
	}
	return impl.SenderResult{Sender: touched}
}

// onWayModel counts the bytes of the flights.
func onWayModel(s impl.Sender) impl.IntResult {
	if fault := senderFaultModel(s); fault != impl.OK {
		return impl.IntResult{Code: fault}
	}
	count := int64(0)
	for _, f := range s.Flights {
		count += int64(len(f.Load))
	}
	return impl.IntResult{Value: count}
}

func seqModel(s impl.Sender, at int64) impl.IntResult {
	if fault := senderFaultModel(s); fault != impl.OK {
		return impl.IntResult{Code: fault}
	}
	if at < 0 || at > 1000000 {
		return impl.IntResult{Code: impl.ErrRange}
	}
	return impl.IntResult{Value: leftOf(whole(s.Start), whole(at))}
}

func sameFlight(a impl.Flight, b impl.Flight) bool {
	return a.At == b.At && a.Data == b.Data && bytes.Equal(a.Load, b.Load) && a.Sent == b.Sent && a.Tries == b.Tries
}

func sameSender(a impl.Sender, b impl.Sender) bool {
	return a.Start == b.Start && a.Next == b.Next && a.Acked == b.Acked && slices.EqualFunc(a.Flights, b.Flights, sameFlight)
}

func sameSent(a impl.SenderResult, b impl.SenderResult) bool {
	return a.Code == b.Code && sameSender(a.Sender, b.Sender)
}

func sameInts(a impl.IntsResult, b impl.IntsResult) bool {
	return a.Code == b.Code && slices.Equal(a.List, b.List)
}

// rightSenders are without a fault: ordinary ones, and each number at its bounds.
func rightSenders() []impl.Sender {
	return []impl.Sender{
		{},
		{Flights: []impl.Flight{}},
		{Start: 65535},
		{Start: 65534, Next: 65537, Acked: 65537},
		{Start: 7, Next: 1000000, Acked: 1000000},
		senderWith(65534, 0, flight(0, "abc", 1, 1), flight(3, "de", 2, 1)),
		senderWith(0, 0, flight(0, "a", 0, 1)),
		senderWith(65535, 999999, flight(399, "z", 1000000, 1000)),
		senderWith(100, 999992, flight(392, "stuvwxyz", 5, 999)),
		senderWith(3, 65530, flight(10, "abcdefgh", 4, 2), flight(0, "klm", 4, 1000), flight(10, "abcdefgh", 8, 3), flight(20, "q", 2, 999)),
		senderWith(40000, 32760, flight(50, "abcdefg", 30, 3), flight(57, "hijklmno", 20, 2), flight(300, "pq", 10, 1)),
		fullSender(0, 0, 12, 1),
		fullSender(65500, 0, 12, 8),
		fullSender(30000, 65490, 12, 8),
		fullSender(65535, 1000000-12*8, 12, 8),
		fullSender(1, 1000000-12, 12, 1),
		fullSender(17, 1000000-11*8, 11, 8),
		fullSender(65530, 5, 11, 3),
	}
}

// drawnSenders are without a fault, drawn from a seed that is always the same.
func drawnSenders(count int) []impl.Sender {
	draw := rand.New(rand.NewSource(14))
	tries := []int64{1, 1, 2, 3, 999, 1000}
	var out []impl.Sender
	for range count {
		var flights []impl.Flight
		for range draw.Intn(13) {
			load := make([]byte, 1+draw.Intn(8))
			draw.Read(load)
			data := draw.Int63n(401 - int64(len(load)))
			flights = append(flights, flight(data, string(load), draw.Int63n(30), tries[draw.Intn(len(tries))]))
		}
		start := []int64{0, 1, 65535, 65500 + draw.Int63n(36), draw.Int63n(65536)}[draw.Intn(5)]
		acked := []int64{0, draw.Int63n(100), 65400 + draw.Int63n(200), 999000 - draw.Int63n(900), draw.Int63n(900000)}[draw.Intn(5)]
		out = append(out, senderWith(start, acked, flights...))
	}
	return out
}

type senderTurn func(s impl.Sender) []impl.Sender

func aroundOf(list ...int64) []int64 {
	out := []int64{math.MinInt64, math.MinInt64 + 1, math.MaxInt64 - 7, math.MaxInt64, 1 << 32, -(1 << 32)}
	for _, n := range list {
		out = append(out, n-1, n, n+1)
	}
	return out
}

// senderTurns set each number of a sender and of its first, second and last flight at and beside its bounds, and give it other loads and other counts of flights.
func senderTurns() []senderTurn {
	numbers := func(of func(s *impl.Sender) *int64, list ...int64) senderTurn {
		return func(s impl.Sender) (out []impl.Sender) {
			for _, n := range aroundOf(list...) {
				turned := cloneSender(s)
				if place := of(&turned); place != nil {
					*place = n
					out = append(out, turned)
				}
			}
			return out
		}
	}
	all := []senderTurn{
		numbers(func(s *impl.Sender) *int64 { return &s.Start }, 0, 65535),
		numbers(func(s *impl.Sender) *int64 { return &s.Next }, 0, 5, 96, 1000000),
		numbers(func(s *impl.Sender) *int64 { return &s.Acked }, 0, 5, 96, 1000000),
		turnCounts,
	}
	for _, which := range []func(count int) int{func(int) int { return 0 }, func(int) int { return 1 }, func(count int) int { return count - 1 }} {
		field := func(of func(f *impl.Flight) *int64, list ...int64) senderTurn {
			return numbers(func(s *impl.Sender) *int64 {
				i := which(len(s.Flights))
				if i < 0 || i >= len(s.Flights) {
					return nil
				}
				return of(&s.Flights[i])
			}, list...)
		}
		all = append(all,
			field(func(f *impl.Flight) *int64 { return &f.At }, 0, 3, 8, 88),
			field(func(f *impl.Flight) *int64 { return &f.Data }, 0, 392, 400),
			field(func(f *impl.Flight) *int64 { return &f.Sent }, 0, 1000000),
			field(func(f *impl.Flight) *int64 { return &f.Tries }, 1, 1000),
			turnLoad(which),
		)
	}
	return all
}

// turnCounts leaves Next as it is, and moves it along with the flights.
func turnCounts(s impl.Sender) (out []impl.Sender) {
	for _, count := range []int{0, 1, 11, 12, 13, 14, 40} {
		more := fullSender(s.Start, s.Acked, count, 2)
		stays := more
		stays.Next = s.Next
		out = append(out, more, stays)
	}
	return out
}

func turnLoad(which func(count int) int) senderTurn {
	return func(s impl.Sender) (out []impl.Sender) {
		i := which(len(s.Flights))
		if i < 0 || i >= len(s.Flights) {
			return nil
		}
		for _, load := range [][]byte{nil, {}, {0}, lettersOf(2), lettersOf(7), lettersOf(8), lettersOf(9), lettersOf(401), lettersOf(65537)} {
			turned := cloneSender(s)
			turned.Flights[i].Load = load
			moved := senderWith(s.Start, s.Acked, turned.Flights...)
			out = append(out, turned, moved)
		}
		return out
	}
}

// turnedSenders tells each sender with one thing turned, and with each two; most have a fault, many have several.
func turnedSenders(tell func(s impl.Sender)) {
	all := senderTurns()
	for _, s := range []impl.Sender{{}, rightSenders()[5], fullSender(65500, 0, 12, 8)} {
		for i, one := range all {
			for _, once := range one(s) {
				tell(once)
				for _, other := range all[i+1:] {
					for _, twice := range other(once) {
						tell(twice)
					}
				}
			}
		}
	}
}

func TestFlightConstants(t *testing.T) {
	if impl.MaxFlights != 12 || impl.StaleAfter != 3 {
		t.Errorf("MaxFlights is %d, StaleAfter %d", impl.MaxFlights, impl.StaleAfter)
	}
}

func TestSenderFault(t *testing.T) {
	good := flight(0, "ab", 3, 1)
	with := func(turn func(s *impl.Sender)) impl.Sender {
		s := senderWith(9, 10, good, good, good)
		turn(&s)
		return s
	}
	rows := []struct {
		what string
		s    impl.Sender
		want int64
	}{
		{"three flights", with(func(s *impl.Sender) {}), impl.OK},
		{"Start 65535", with(func(s *impl.Sender) { s.Start = 65535 }), impl.OK},
		{"Start 65536", with(func(s *impl.Sender) { s.Start = 65536 }), impl.ErrRange},
		{"Start -1", with(func(s *impl.Sender) { s.Start = -1 }), impl.ErrRange},
		{"Next beside the end", with(func(s *impl.Sender) { s.Next = 17 }), impl.ErrForm},
		{"Next ahead of the end", with(func(s *impl.Sender) { s.Next = 15 }), impl.ErrForm},
		{"Next below Acked", with(func(s *impl.Sender) { s.Next = 9 }), impl.ErrRange},
		{"Next below 0", impl.Sender{Next: -1, Acked: -1}, impl.ErrRange},
		{"Next 10^6", impl.Sender{Next: 1000000, Acked: 1000000}, impl.OK},
		{"Next above 10^6", impl.Sender{Next: 1000001, Acked: 1000001}, impl.ErrRange},
		{"Next above Acked, no flights", impl.Sender{Next: 1}, impl.ErrForm},
		{"Acked 1 more", with(func(s *impl.Sender) { s.Acked = 11 }), impl.ErrForm},
		{"Acked Next, with flights", with(func(s *impl.Sender) { s.Acked = 16 }), impl.ErrForm},
		{"Acked above Next", with(func(s *impl.Sender) { s.Acked = 17 }), impl.ErrRange},
		{"Acked below 0", senderWith(9, -2, good), impl.ErrRange},
		{"12 flights", fullSender(9, 10, 12, 8), impl.OK},
		{"13 flights", fullSender(9, 10, 13, 8), impl.ErrMany},
		{"the first not at Acked", with(func(s *impl.Sender) { s.Flights[0].At = 9 }), impl.ErrForm},
		{"a gap", with(func(s *impl.Sender) { s.Flights[1].At, s.Flights[2].At, s.Next = 13, 15, 17 }), impl.ErrForm},
		{"one over the one ahead", with(func(s *impl.Sender) { s.Flights[1].At, s.Flights[2].At, s.Next = 11, 13, 15 }), impl.ErrForm},
		{"two changed about", with(func(s *impl.Sender) { s.Flights[1].At, s.Flights[2].At = 14, 12 }), impl.ErrForm},
		{"Data 398", with(func(s *impl.Sender) { s.Flights[1].Data = 398 }), impl.OK},
		{"Data 399 of two bytes", with(func(s *impl.Sender) { s.Flights[1].Data = 399 }), impl.ErrRange},
		{"Data -1", with(func(s *impl.Sender) { s.Flights[1].Data = -1 }), impl.ErrRange},
		{"Data greatest", with(func(s *impl.Sender) { s.Flights[1].Data = math.MaxInt64 }), impl.ErrRange},
		{"Sent 10^6", with(func(s *impl.Sender) { s.Flights[2].Sent = 1000000 }), impl.OK},
		{"Sent above 10^6", with(func(s *impl.Sender) { s.Flights[2].Sent = 1000001 }), impl.ErrRange},
		{"Sent -1", with(func(s *impl.Sender) { s.Flights[2].Sent = -1 }), impl.ErrRange},
		{"Tries 0", with(func(s *impl.Sender) { s.Flights[0].Tries = 0 }), impl.ErrRange},
		{"Tries 1000", with(func(s *impl.Sender) { s.Flights[0].Tries = 1000 }), impl.OK},
		{"Tries 1001", with(func(s *impl.Sender) { s.Flights[0].Tries = 1001 }), impl.ErrRange},
		{"no Load", senderWith(9, 10, good, flight(0, "", 3, 1), good), impl.ErrForm},
		{"no Load, Data 400", senderWith(9, 10, good, flight(400, "", 3, 1), good), impl.ErrForm},
		{"no Load, Data 401", senderWith(9, 10, good, flight(401, "", 3, 1), good), impl.ErrRange},
		{"a Load of 9", senderWith(9, 10, good, flight(0, "123456789", 3, 1)), impl.ErrForm},
		{"a Load of 8", senderWith(9, 10, good, flight(392, "12345678", 3, 1)), impl.OK},
		{"a Load of 8 at 393", senderWith(9, 10, good, flight(393, "12345678", 3, 1)), impl.ErrRange},
		{"a Load of 400", senderWith(9, 10, flight(0, string(lettersOf(400)), 3, 1)), impl.ErrForm},
		{"a Load of 401", senderWith(9, 10, flight(0, string(lettersOf(401)), 3, 1)), impl.ErrRange},
	}
	for _, row := range rows {
		if got := impl.SenderFault(row.s); got != row.want {
			t.Errorf("%s: SenderFault = %d, want %d", row.what, got, row.want)
		}
	}
}

// The order of the codes: numbers of the sender, how many flights, each flight with its own, and Next at the end.
func TestSenderFaultOrder(t *testing.T) {
	good, form, both := flight(0, "ab", 3, 1), flight(0, "", 3, 1), flight(0, "", 3, 0)
	turned := func(s impl.Sender, turn func(s *impl.Sender)) impl.Sender {
		turn(&s)
		return s
	}
	rows := []struct {
		what string
		s    impl.Sender
		want int64
	}{
		{"Start ahead of too many", fullSender(65536, 0, 13, 1), impl.ErrRange},
		{"Acked ahead of too many", fullSender(0, -20, 13, 1), impl.ErrRange},
		{"Acked above Next ahead of a flight", impl.Sender{Next: 1, Acked: 2, Flights: []impl.Flight{{At: 2, Tries: 1}}}, impl.ErrRange},
		{"too many ahead of a flight", turned(fullSender(0, 0, 13, 1), func(s *impl.Sender) { s.Flights[0].Tries = 0 }), impl.ErrMany},
		{"too many ahead of Next", turned(fullSender(0, 0, 13, 1), func(s *impl.Sender) { s.Next = 500 }), impl.ErrMany},
		{"the first flight ahead of the second", senderWith(0, 0, form, both), impl.ErrForm},
		{"the second flight ahead of the third", senderWith(0, 0, good, form, both), impl.ErrForm},
		{"range ahead of form in one flight", senderWith(0, 0, good, both, form), impl.ErrRange},
		{"range ahead of its place", turned(senderWith(0, 0, good, good), func(s *impl.Sender) { s.Flights[1].At, s.Flights[1].Sent = 9, -1 }), impl.ErrRange},
		{"its place ahead of the next one's range", turned(senderWith(0, 0, good, good), func(s *impl.Sender) { s.Flights[0].At, s.Flights[1].Sent = 9, -1 }), impl.ErrForm},
		{"a flight ahead of Next", turned(senderWith(0, 0, good, good), func(s *impl.Sender) { s.Next, s.Flights[1].Data = 9, 401 }), impl.ErrRange},
	}
	for _, row := range rows {
		if got := impl.SenderFault(row.s); got != row.want {
			t.Errorf("%s: SenderFault = %d, want %d", row.what, got, row.want)
		}
	}
}

func TestSenderFaultAgainstModel(t *testing.T) {
	codes := map[int64]int{}
	turnedSenders(func(s impl.Sender) {
		got, want := impl.SenderFault(s), senderFaultModel(s)
		if got != want {
			t.Fatalf("SenderFault(%+v) = %d, want %d", s, got, want)
		}
		codes[got]++
	})
	for _, code := range []int64{impl.OK, impl.ErrForm, impl.ErrMany, impl.ErrRange} {
		if codes[code] < 50 {
			t.Errorf("the code %d came only %d times", code, codes[code])
		}
	}
	for _, s := range append(rightSenders(), drawnSenders(300)...) {
		if got := impl.SenderFault(s); got != impl.OK || senderFaultModel(s) != impl.OK {
			t.Errorf("SenderFault(%+v) = %d", s, got)
		}
	}
}

// With a sender that has a fault every function tells its code, whatever else is wrong, and zero beside it.
func TestSenderFaultIsAskedFirst(t *testing.T) {
	count := 0
	turnedSenders(func(s impl.Sender) {
		count++
		fault := senderFaultModel(s)
		if fault == impl.OK || count%5 != 0 {
			return
		}
		none, noList, noNumber := impl.SenderResult{Code: fault}, impl.IntsResult{Code: fault}, impl.IntResult{Code: fault}
		for _, n := range []int64{0, -1, math.MaxInt64} {
			for _, load := range [][]byte{[]byte("x"), nil, lettersOf(9)} {
				if got := impl.PushFlight(s, n, load, n); !sameSent(got, none) {
					t.Fatalf("PushFlight(%+v, %d) = %+v, want the code %d", s, n, got, fault)
				}
			}
			ack, due, touched := impl.AckSender(s, n), impl.DueFlights(s, n, n), impl.TouchFlight(s, n, n)
			if !sameSent(ack, none) || !sameInts(due, noList) || !sameSent(touched, none) || impl.OnWay(s) != noNumber || impl.SeqOf(s, n) != noNumber {
				t.Fatalf("of %+v at %d: %+v, %+v, %+v, %v, %v, want the code %d", s, n, ack, due, touched, impl.OnWay(s), impl.SeqOf(s, n), fault)
			}
		}
	})
}

func TestStartSender(t *testing.T) {
	for _, start := range []int64{0, 1, 32768, 65534, 65535} {
		got := impl.StartSender(start)
		if !sameSent(got, impl.SenderResult{Sender: impl.Sender{Start: start}}) || impl.SenderFault(got.Sender) != impl.OK {
			t.Errorf("StartSender(%d) = %+v", start, got)
		}
	}
	for _, start := range []int64{-1, 65536, 65537, 1 << 32, math.MinInt64, math.MaxInt64} {
		if got := impl.StartSender(start); !sameSent(got, impl.SenderResult{Code: impl.ErrRange}) {
			t.Errorf("StartSender(%d) = %+v", start, got)
		}
	}
	for _, start := range edgeNumbers() {
		if got, want := impl.StartSender(start), startSenderModel(start); !sameSent(got, want) {
			t.Errorf("StartSender(%d) = %+v, want %+v", start, got, want)
		}
	}
}

func TestPushFlight(t *testing.T) {
	first := impl.PushFlight(impl.Sender{Start: 65534}, 5, []byte("abc"), 7)
	want := impl.Sender{Start: 65534, Next: 3, Flights: []impl.Flight{{At: 0, Data: 5, Load: []byte("abc"), Sent: 7, Tries: 1}}}
	if !sameSent(first, impl.SenderResult{Sender: want}) {
		t.Fatalf("the first one: %+v", first)
	}
	second := impl.PushFlight(first.Sender, 0, []byte("q"), 2)
	want.Next = 4
	want.Flights = append(want.Flights, impl.Flight{At: 3, Load: []byte("q"), Sent: 2, Tries: 1})
	if !sameSent(second, impl.SenderResult{Sender: want}) {
		t.Fatalf("the second one: %+v", second)
	}
}

func TestPushFlightWrong(t *testing.T) {
	few, full, last := fullSender(9, 10, 3, 2), fullSender(9, 10, 12, 2), fullSender(9, 999990, 2, 1)
	rows := []struct {
		what string
		s    impl.Sender
		data int64
		size int
		now  int64
		want int64
	}{
		{"no load", few, 0, 0, 5, impl.ErrForm},
		{"a load of 9", few, 0, 9, 5, impl.ErrForm},
		{"a load of 8", few, 0, 8, 5, impl.OK},
		{"data -1", few, -1, 1, 5, impl.ErrRange},
		{"data 399, one byte", few, 399, 1, 5, impl.OK},
		{"data 400, one byte", few, 400, 1, 5, impl.ErrRange},
		{"data 393, eight bytes", few, 393, 8, 5, impl.ErrRange},
		{"data 392, eight bytes", few, 392, 8, 5, impl.OK},
		{"data greatest", few, math.MaxInt64, 8, 5, impl.ErrRange},
		{"data least", few, math.MinInt64, 8, 5, impl.ErrRange},
		{"now -1", few, 0, 1, -1, impl.ErrRange},
		{"now 10^6", few, 0, 1, 1000000, impl.OK},
		{"now above", few, 0, 1, 1000001, impl.ErrRange},
		{"Next just 10^6", last, 0, 8, 5, impl.OK},
		{"Next above 10^6", fullSender(9, 999991, 2, 1), 0, 8, 5, impl.ErrRange},
		{"at 10^6", impl.Sender{Next: 1000000, Acked: 1000000}, 0, 1, 5, impl.ErrRange},
		{"full", full, 0, 1, 5, impl.ErrMany},
		{"form ahead of range", few, -1, 0, -1, impl.ErrForm},
		{"form ahead of many", full, 0, 9, 5, impl.ErrForm},
		{"range ahead of many", full, -1, 1, 5, impl.ErrRange},
		{"a place above 10^6 ahead of many", fullSender(9, 1000000-12, 12, 1), 0, 1, 5, impl.ErrRange},
		{"a load of 401, form", full, 0, 401, -1, impl.ErrForm},
	}
	for _, row := range rows {
		got := impl.PushFlight(row.s, row.data, lettersOf(row.size), row.now)
		if got.Code != row.want {
			t.Errorf("%s: the code is %d, want %d", row.what, got.Code, row.want)
		}
		if row.want != impl.OK && !sameSender(got.Sender, impl.Sender{}) {
			t.Errorf("%s: beside the code stands %+v", row.what, got.Sender)
		}
	}
}

func TestPushFlightAgainstModel(t *testing.T) {
	for _, s := range append(rightSenders(), drawnSenders(60)...) {
		for _, data := range aroundOf(0, 200, 392, 399) {
			for _, size := range []int{0, 1, 2, 7, 8, 9, 401} {
				for _, now := range aroundOf(0, 1000000) {
					load := lettersOf(size)
					if got, want := impl.PushFlight(s, data, load, now), pushModel(s, data, load, now); !sameSent(got, want) {
						t.Fatalf("PushFlight(%+v, %d, %q, %d) = %+v, want %+v", s, data, load, now, got, want)
					}
				}
			}
		}
	}
}

func TestAckSender(t *testing.T) {
	s := senderWith(65534, 0, flight(0, "abc", 1, 1), flight(3, "de", 2, 1), flight(9, "f", 3, 7))
	rows := []struct {
		ack, code, acked int64
		left             int
	}{
		{65533, impl.ErrNone, 0, 0}, {65534, impl.OK, 0, 3}, {65535, impl.ErrForm, 0, 0}, {0, impl.ErrForm, 0, 0},
		{1, impl.OK, 3, 2}, {2, impl.ErrForm, 0, 0}, {3, impl.OK, 5, 1}, {4, impl.OK, 6, 0}, {5, impl.ErrRange, 0, 0},
		{32765, impl.ErrRange, 0, 0}, {32766, impl.ErrNone, 0, 0},
		// An ack is a number that goes round, whatever it comes as.
		{1 + 65536, impl.OK, 3, 2}, {1 - 65536, impl.OK, 3, 2}, {-1, impl.ErrForm, 0, 0}, {-2, impl.OK, 0, 3},
		{math.MinInt64 + 3, impl.OK, 5, 1}, {math.MaxInt64, impl.ErrForm, 0, 0}, {math.MaxInt64 - 1, impl.OK, 0, 3}, {math.MinInt64, impl.ErrForm, 0, 0},
	}
	for _, row := range rows {
		got := impl.AckSender(s, row.ack)
		want := impl.SenderResult{Code: row.code}
		if row.code == impl.OK {
			want.Sender = impl.Sender{Start: 65534, Next: 6, Acked: row.acked, Flights: s.Flights[3-row.left:]}
		}
		if !sameSent(got, want) {
			t.Errorf("AckSender at %d = %+v, want %+v", row.ack, got, want)
		}
	}
}

// numbersByPlace walks over all places that are near, one number each.
func numbersByPlace(s impl.Sender) map[int64]int64 {
	places := map[int64]int64{}
	for place := s.Acked - 32768; place < s.Acked+32768; place++ {
		places[(s.Start+place+65536)%65536] = place
	}
	return places
}

func TestAckSenderAtEveryNumber(t *testing.T) {
	for _, s := range []impl.Sender{rightSenders()[5], rightSenders()[9], fullSender(65535, 1000000-96, 12, 8), {Start: 30000, Next: 40000, Acked: 40000}, fullSender(65500, 100, 12, 3)} {
		places := numbersByPlace(s)
		if len(places) != 65536 {
			t.Fatalf("%d numbers have a place", len(places))
		}
		ends := []int64{s.Acked}
		for _, f := range s.Flights {
			ends = append(ends, f.At+int64(len(f.Load)))
		}
		for ack, place := range places {
			got := impl.AckSender(s, ack)
			want := impl.SenderResult{Sender: s}
			switch gone := slices.Index(ends, place); {
			case place < 0:
				want = impl.SenderResult{Code: impl.ErrNone}
			case place > s.Next:
				want = impl.SenderResult{Code: impl.ErrRange}
			case place > s.Acked && gone < 0:
				want = impl.SenderResult{Code: impl.ErrForm}
			case place > s.Acked:
				want.Sender.Acked, want.Sender.Flights = place, s.Flights[gone:]
			}
			if !sameSent(got, want) {
				t.Fatalf("AckSender(%+v, %d), the place %d: %+v, want %+v", s, ack, place, got, want)
			}
		}
	}
}

func TestAckSenderAgainstModel(t *testing.T) {
	for _, s := range append(rightSenders(), drawnSenders(300)...) {
		acks := edgeNumbers()
		for place := s.Acked - 12; place <= s.Next+12; place++ {
			acks = append(acks, s.Start+place, s.Start+place-65536*40, (s.Start+place+65536)%65536)
		}
		for _, off := range []int64{-32769, -32768, -32767, 32767, 32768, 32769} {
			acks = append(acks, s.Start+s.Acked+off, s.Start+s.Next+off)
		}
		for _, ack := range acks {
			if got, want := impl.AckSender(s, ack), ackModel(s, ack); !sameSent(got, want) {
				t.Fatalf("AckSender(%+v, %d) = %+v, want %+v", s, ack, got, want)
			}
		}
	}
}

func TestDueFlights(t *testing.T) {
	s := senderWith(0, 0, flight(0, "a", 5, 1), flight(1, "b", 9, 3), flight(2, "c", 4, 1000), flight(3, "d", 1000000, 1))
	rows := []struct {
		now, wait, code int64
		list            []int64
	}{
		{9, 4, impl.OK, []int64{0, 2}}, {9, 5, impl.OK, []int64{2}}, {9, 6, impl.OK, nil}, {8, 4, impl.OK, []int64{2}},
		{9, 0, impl.OK, []int64{0, 1, 2}}, {8, 0, impl.OK, []int64{0, 2}}, {3, 0, impl.OK, nil}, {0, 0, impl.OK, nil},
		{1000000, 0, impl.OK, []int64{0, 1, 2, 3}}, {1000000, 1, impl.OK, []int64{0, 1, 2}}, {1000000, 999995, impl.OK, []int64{0, 2}},
		{1000000, 999996, impl.OK, []int64{2}}, {1000000, 1000000, impl.OK, nil},
		{-1, 0, impl.ErrRange, nil}, {1000001, 4, impl.ErrRange, nil}, {9, -1, impl.ErrRange, nil}, {9, 1000001, impl.ErrRange, nil},
		{math.MinInt64, 0, impl.ErrRange, nil}, {math.MaxInt64, 0, impl.ErrRange, nil}, {9, math.MinInt64, impl.ErrRange, nil}, {9, math.MaxInt64, impl.ErrRange, nil},
		{math.MinInt64, math.MaxInt64, impl.ErrRange, nil}, {-1, -1, impl.ErrRange, nil},
	}
	for _, row := range rows {
		if got := impl.DueFlights(s, row.now, row.wait); !sameInts(got, impl.IntsResult{Code: row.code, List: row.list}) {
			t.Errorf("DueFlights at %d, %d = %+v, want %d, %v", row.now, row.wait, got, row.code, row.list)
		}
	}
}

func TestDueFlightsAgainstModel(t *testing.T) {
	for _, s := range append(rightSenders(), drawnSenders(200)...) {
		edges := aroundOf(0, 4, 10, 16, 25, 43, 1000000)
		for _, now := range edges {
			for _, wait := range edges {
				if got, want := impl.DueFlights(s, now, wait), dueModel(s, now, wait); !sameInts(got, want) {
					t.Fatalf("DueFlights(%+v, %d, %d) = %+v, want %+v", s, now, wait, got, want)
				}
			}
		}
	}
}

func TestTouchFlight(t *testing.T) {
	s := senderWith(3, 8, flight(0, "a", 5, 1), flight(1, "b", 9, 999), flight(2, "c", 4, 1000))
	rows := []struct{ i, now, code, tries int64 }{
		{0, 7, impl.OK, 2}, {1, 7, impl.OK, 1000}, {2, 7, impl.OK, 1000}, {2, 0, impl.OK, 1000}, {0, 1000000, impl.OK, 2}, {1, 3, impl.OK, 1000},
		{-1, 7, impl.ErrNone, 0}, {3, 7, impl.ErrNone, 0}, {12, 7, impl.ErrNone, 0}, {1 << 32, 7, impl.ErrNone, 0}, {math.MinInt64, 7, impl.ErrNone, 0}, {math.MaxInt64, 7, impl.ErrNone, 0},
		{0, -1, impl.ErrRange, 0}, {0, 1000001, impl.ErrRange, 0}, {2, math.MinInt64, impl.ErrRange, 0}, {2, math.MaxInt64, impl.ErrRange, 0},
		{3, -1, impl.ErrNone, 0}, {-1, 1000001, impl.ErrNone, 0},
	}
	for _, row := range rows {
		want := impl.SenderResult{Code: row.code}
		if row.code == impl.OK {
			want.Sender = cloneSender(s)
			want.Sender.Flights[row.i].Sent, want.Sender.Flights[row.i].Tries = row.now, row.tries
		}
		if got := impl.TouchFlight(s, row.i, row.now); !sameSent(got, want) {
			t.Errorf("TouchFlight at %d, %d = %+v, want %+v", row.i, row.now, got, want)
		}
	}
	if got := impl.TouchFlight(impl.Sender{}, 0, 7); !sameSent(got, impl.SenderResult{Code: impl.ErrNone}) {
		t.Errorf("TouchFlight without flights = %+v", got)
	}
}

func TestTouchFlightAgainstModel(t *testing.T) {
	for _, s := range append(rightSenders(), drawnSenders(200)...) {
		places := []int64{math.MinInt64, math.MaxInt64, 1 << 32, -(1 << 32)}
		for i := int64(-2); i < 15; i++ {
			places = append(places, i)
		}
		for _, i := range places {
			for _, now := range aroundOf(0, 20, 1000000) {
				if got, want := impl.TouchFlight(s, i, now), touchModel(s, i, now); !sameSent(got, want) {
					t.Fatalf("TouchFlight(%+v, %d, %d) = %+v, want %+v", s, i, now, got, want)
				}
			}
		}
	}
}

func TestOnWayAndSeqOf(t *testing.T) {
	s := senderWith(65534, 7, flight(0, "abc", 1, 1), flight(3, "de", 2, 1))
	if got := impl.OnWay(s); got != (impl.IntResult{Value: 5}) {
		t.Errorf("OnWay = %v", got)
	}
	rows := []struct{ at, code, value int64 }{
		{0, impl.OK, 65534}, {1, impl.OK, 65535}, {2, impl.OK, 0}, {3, impl.OK, 1}, {65537, impl.OK, 65535}, {65538, impl.OK, 0}, {1000000, impl.OK, 16958},
		{-1, impl.ErrRange, 0}, {1000001, impl.ErrRange, 0}, {math.MinInt64, impl.ErrRange, 0}, {math.MaxInt64, impl.ErrRange, 0},
	}
	for _, row := range rows {
		if got := impl.SeqOf(s, row.at); got != (impl.IntResult{Code: row.code, Value: row.value}) {
			t.Errorf("SeqOf at %d = %v, want %d, %d", row.at, got, row.code, row.value)
		}
	}
	for _, s := range append(rightSenders(), drawnSenders(300)...) {
		if got, want := impl.OnWay(s), onWayModel(s); got != want {
			t.Errorf("OnWay(%+v) = %v, want %v", s, got, want)
		}
		for _, at := range append(aroundOf(0, 1000000, 65536, 65536-s.Start, s.Next), edgeNumbers()...) {
			if got, want := impl.SeqOf(s, at), seqModel(s, at); got != want {
				t.Errorf("SeqOf(%+v, %d) = %v, want %v", s, at, got, want)
			}
		}
	}
}
