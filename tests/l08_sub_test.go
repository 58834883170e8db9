package tests

import (
	"math"
	"math/rand"
	"slices"
	"testing"

	"loop.example/g00230/impl"
)

// subIn is an ordinary sub in that state, with that sender.
func subIn(state int64, send impl.Sender) impl.Sub {
	return impl.Sub{
		Path: 1, State: state, Join: true, Nonce: 3, Other: 4, Sent: 2, Send: send,
		Catch: catchWith(7, 5, span(8, 10), span(12, 13)), Control: impl.Control{Window: 16, Bound: 64},
	}
}

func openSub(flights ...impl.Flight) impl.Sub {
	return subIn(impl.SubOpen, senderWith(5, 0, flights...))
}

func windowed(x impl.Sub, window int64, bound int64, part int64) impl.Sub {
	x.Control = impl.Control{Window: window, Bound: bound, Part: part}
	return x
}

func withCatch(x impl.Sub, c impl.Catch) impl.Sub {
	x.Catch = c
	return x
}

func subFaultModel(x impl.Sub) int64 {
	switch {
	case x.Path < 0, x.Path >= 3, x.State <= 0, x.State >= 5:
		return impl.ErrRange
	case x.Nonce < 0, x.Nonce >= 1000001, x.Other < 0, x.Other >= 1000001, x.Sent < 0, x.Sent >= 1000001:
		return impl.ErrRange
	}
	for _, fault := range []int64{senderFaultModel(x.Send), catchFaultModel(x.Catch), controlFaultModel(x.Control)} {
		if fault != impl.OK {
			return fault
		}
	}
	early := x.State <= 2 && x.Send.Next > 0
	if early || x.State == 4 && len(x.Send.Flights) > 0 {
		return impl.ErrForm
	}
	return impl.OK
}

func newSubModel(path int64, start int64, join bool, nonce int64, now int64) impl.SubResult {
	if path < 0 || path > 2 || start < 0 || start > 65535 || nonce < 0 || nonce > 1000000 || now < 0 || now > 1000000 {
		return impl.SubResult{Code: impl.ErrRange}
	}
	return impl.SubResult{Sub: impl.Sub{
		Path: path, State: 1, Join: join, Nonce: nonce, Sent: now,
		Send: impl.Sender{Start: start}, Control: impl.Control{Window: 16, Bound: 64},
	}}
}

// ackSubModel counts the bytes that are not on their way any more.
func ackSubModel(x impl.Sub, ack int64, others []int64) impl.SubResult {
	if fault := subFaultModel(x); fault != impl.OK {
		return impl.SubResult{Code: fault}
	}
	told := ackModel(x.Send, ack)
	if told.Code != impl.OK {
		return impl.SubResult{Code: told.Code}
	}
	acked := cloneSub(x)
	acked.Send = told.Sender
	if more := onWayModel(x.Send).Value - onWayModel(told.Sender).Value; more > 0 {
		grown := growModel(x.Control, min(more, 1000), others)
		if grown.Code != impl.OK {
			return impl.SubResult{Code: grown.Code}
		}
		acked.Control = grown.Control
	}
	return impl.SubResult{Sub: acked}
}

// roomModel takes a byte of the window for each byte that is on its way, as long as there is one.
func roomModel(x impl.Sub) impl.IntResult {
	if fault := subFaultModel(x); fault != impl.OK {
		return impl.IntResult{Code: fault}
	}
	if x.State != 3 || len(x.Send.Flights) >= 12 {
		return impl.IntResult{}
	}
	room := x.Control.Window
	for _, f := range x.Send.Flights {
		for range f.Load {
			if room > 0 {
				room--
			}
		}
	}
	return impl.IntResult{Value: room}
}

func staleModel(x impl.Sub) impl.IntResult {
	if fault := subFaultModel(x); fault != impl.OK {
		return impl.IntResult{Code: fault}
	}
	fresh := func(f impl.Flight) bool { return f.Tries == 1 || f.Tries == 2 }
	return impl.IntResult{Value: int64(len(slices.DeleteFunc(slices.Clone(x.Send.Flights), fresh)))}
}

func closeModel(x impl.Sub) impl.SubResult {
	if fault := subFaultModel(x); fault != impl.OK {
		return impl.SubResult{Code: fault}
	}
	return impl.SubResult{Sub: impl.Sub{
		Path: x.Path, State: 4, Join: x.Join, Nonce: x.Nonce, Other: x.Other, Sent: x.Sent,
		Send: impl.Sender{Start: x.Send.Start, Next: x.Send.Acked, Acked: x.Send.Acked}, Catch: cloneCatch(x.Catch), Control: x.Control,
	}}
}

// coversModel asks each of the places, and at it each byte of each flight.
func coversModel(x impl.Sub, data int64, size int64) bool {
	if subFaultModel(x) != impl.OK || x.State != 3 || data < 0 || data > 400 || size < 0 || size > 400 {
		return false
	}
	for place := data; place < data+size; place++ {
		for _, f := range x.Send.Flights {
			for i := range f.Load {
				if f.Data+int64(i) == place {
					return true
				}
			}
		}
	}
	return false
}

func sameSub(a impl.Sub, b impl.Sub) bool {
	return a.Path == b.Path && a.State == b.State && a.Join == b.Join && a.Nonce == b.Nonce && a.Other == b.Other && a.Sent == b.Sent &&
		sameSender(a.Send, b.Send) && sameCatch(a.Catch, b.Catch) && a.Control == b.Control
}

func sameSubs(a impl.SubResult, b impl.SubResult) bool {
	return a.Code == b.Code && sameSub(a.Sub, b.Sub)
}

func cloneSub(x impl.Sub) impl.Sub {
	x.Send, x.Catch = cloneSender(x.Send), cloneCatch(x.Catch)
	return x
}

func subStates() []int64 {
	return []int64{impl.SubAsked, impl.SubAnswered, impl.SubOpen, impl.SubClosed}
}

// emptySenders have nothing on their way; the first ones have sent nothing at all.
func emptySenders() []impl.Sender {
	return []impl.Sender{{}, {Start: 65535}, {Start: 9, Flights: []impl.Flight{}}, {Start: 65534, Next: 65537, Acked: 65537}, {Start: 7, Next: 1000000, Acked: 1000000}, {Start: 3, Next: 1, Acked: 1}}
}

// rightSubs are without a fault: each state, each number at its bounds, and senders, catches and controls of all kinds.
func rightSubs() (out []impl.Sub) {
	controls := []impl.Control{{Window: 16, Bound: 64}, {Window: 8}, {Window: 64, Bound: 64, Part: 63}, {Window: 33, Bound: 12, Part: 40}, {Window: 9, Bound: 10, Part: 1}}
	catches := slices.Concat(rightCatches(), lateCatches())
	add := func(state int64, s impl.Sender) {
		n := len(out)
		x := subIn(state, s)
		x.Path, x.Join, x.Nonce, x.Other, x.Sent = int64(n%3), n%2 == 0, []int64{0, 77, 1000000}[n%3], []int64{1000000, 0, 1, 5}[n%4], []int64{0, 12, 1000000, 999999, 4}[n%5]
		x.Catch, x.Control = catches[n%len(catches)], controls[n%len(controls)]
		out = append(out, x)
	}
	for _, s := range emptySenders() {
		for _, state := range subStates() {
			if s.Next == 0 || state >= impl.SubOpen {
				add(state, s)
			}
		}
	}
	for _, s := range rightSenders() {
		add(impl.SubOpen, s)
		add(impl.SubOpen, s)
	}
	return out
}

// drawnSubs are open and without a fault, drawn from a seed that is always the same.
func drawnSubs(count int) (out []impl.Sub) {
	draw := rand.New(rand.NewSource(23))
	senders, catches := drawnSenders(count), drawnCatches(count)
	for i := range count {
		out = append(out, impl.Sub{
			Path: draw.Int63n(3), State: impl.SubOpen, Join: draw.Intn(2) == 0, Nonce: draw.Int63n(1000001), Other: draw.Int63n(1000001), Sent: draw.Int63n(1000001),
			Send: senders[i], Catch: catches[i], Control: impl.Control{Window: 8 + draw.Int63n(57), Bound: draw.Int63n(65), Part: draw.Int63n(64)},
		})
	}
	return out
}

func wrongControls() []impl.Control {
	return []impl.Control{
		{}, {Window: 7}, {Window: 65}, {Window: math.MinInt64}, {Window: math.MaxInt64},
		{Window: 16, Bound: -1}, {Window: 16, Bound: 65}, {Window: 16, Bound: math.MaxInt64}, {Window: 16, Part: -1}, {Window: 16, Part: 64}, {Window: 16, Part: math.MinInt64},
	}
}

// wrongSubs have each a fault, some of them several.
func wrongSubs() (out []impl.Sub) {
	for _, state := range subStates() {
		x := subIn(state, impl.Sender{Start: 9})
		for _, s := range wrongSenders() {
			turned := x
			turned.Send = s
			out = append(out, turned)
		}
		for _, c := range wrongCatches() {
			out = append(out, withCatch(x, c))
		}
		for _, c := range wrongControls() {
			turned := x
			turned.Control = c
			out = append(out, turned)
		}
	}
	some := senderWith(5, 0, flight(4, "abc", 2, 1))
	for _, state := range []int64{impl.SubAsked, impl.SubAnswered, impl.SubClosed, 0, 5, -1, math.MinInt64, math.MaxInt64} {
		out = append(out, subIn(state, some), subIn(state, fullSender(5, 0, 12, 8)))
	}
	return append(out, subIn(impl.SubAsked, impl.Sender{Next: 3, Acked: 3}), subIn(impl.SubAnswered, impl.Sender{Next: 1000000, Acked: 1000000}), impl.Sub{}, impl.Sub{State: impl.SubOpen})
}

type subTurn func(x impl.Sub) []impl.Sub

func subNumbers(of func(x *impl.Sub) *int64, list ...int64) subTurn {
	return func(x impl.Sub) (out []impl.Sub) {
		for _, n := range aroundOf(list...) {
			*of(&x) = n
			out = append(out, x)
		}
		return out
	}
}

// subTurns set each number of a sub at and beside its bounds, and give it other senders, catches and controls, with and without a fault.
func subTurns() []subTurn {
	return []subTurn{
		subNumbers(func(x *impl.Sub) *int64 { return &x.Path }, 0, 2),
		subNumbers(func(x *impl.Sub) *int64 { return &x.State }, 1, 3, 4),
		subNumbers(func(x *impl.Sub) *int64 { return &x.Nonce }, 0, 1000000),
		subNumbers(func(x *impl.Sub) *int64 { return &x.Other }, 0, 1000000),
		subNumbers(func(x *impl.Sub) *int64 { return &x.Sent }, 0, 1000000),
		turnSenders, turnCatches, turnControls,
	}
}

func turnSenders(x impl.Sub) (out []impl.Sub) {
	more := []impl.Sender{{Start: -1}, {Start: 65536}, {Next: 1000001, Acked: 1000001}, {Next: -1, Acked: -1}, {Next: 3, Acked: 4}, senderWith(0, 0, flight(0, "ab", 1, 0)), senderWith(0, 0, flight(0, "ab", 1000001, 1))}
	for _, s := range slices.Concat(emptySenders(), wrongSenders(), more, rightSenders()[5:10], []impl.Sender{fullSender(9, 0, 12, 8)}) {
		x.Send = s
		out = append(out, x)
	}
	return out
}

func turnCatches(x impl.Sub) (out []impl.Sub) {
	for _, c := range slices.Concat(wrongCatches(), rightCatches()[3:8], lateCatches()[:2]) {
		out = append(out, withCatch(x, c))
	}
	return out
}

func turnControls(x impl.Sub) (out []impl.Sub) {
	for _, c := range append(wrongControls(), impl.Control{Window: 8}, impl.Control{Window: 64, Bound: 64, Part: 63}) {
		x.Control = c
		out = append(out, x)
	}
	return out
}

// turnedSubs tells each sub with one thing turned, and with each two; most have a fault, many have several.
func turnedSubs(tell func(x impl.Sub)) {
	all := subTurns()
	for _, x := range []impl.Sub{subIn(impl.SubAsked, impl.Sender{Start: 5}), subIn(impl.SubAnswered, impl.Sender{}), openSub(flight(4, "abc", 2, 1), flight(7, "de", 2, 3)), subIn(impl.SubClosed, impl.Sender{Start: 8, Next: 70, Acked: 70})} {
		for i, one := range all {
			for _, once := range one(x) {
				tell(once)
				for _, other := range all[i+1:] {
					for _, twice := range other(once) {
						tell(twice)
					}
				}
			}
		}
	}
}

func TestSubConstants(t *testing.T) {
	if !slices.Equal(subStates(), []int64{1, 2, 3, 4}) || impl.WaitTicks != 4 {
		t.Errorf("the states are %v, WaitTicks %d", subStates(), impl.WaitTicks)
	}
}

func TestSubFault(t *testing.T) {
	with := func(turn func(x *impl.Sub)) impl.Sub {
		x := openSub(flight(4, "abc", 2, 1))
		turn(&x)
		return x
	}
	sent := senderWith(5, 0, flight(4, "abc", 2, 1))
	rows := []struct {
		what string
		x    impl.Sub
		want int64
	}{
		{"open", with(func(x *impl.Sub) {}), impl.OK},
		{"no Join", with(func(x *impl.Sub) { x.Join = false }), impl.OK},
		{"Path -1", with(func(x *impl.Sub) { x.Path = -1 }), impl.ErrRange},
		{"Path 0", with(func(x *impl.Sub) { x.Path = 0 }), impl.OK},
		{"Path 2", with(func(x *impl.Sub) { x.Path = 2 }), impl.OK},
		{"Path 3", with(func(x *impl.Sub) { x.Path = 3 }), impl.ErrRange},
		{"State 0", with(func(x *impl.Sub) { x.State = 0 }), impl.ErrRange},
		{"State 5", with(func(x *impl.Sub) { x.State = 5 }), impl.ErrRange},
		{"Nonce -1", with(func(x *impl.Sub) { x.Nonce = -1 }), impl.ErrRange},
		{"Nonce 0", with(func(x *impl.Sub) { x.Nonce = 0 }), impl.OK},
		{"Nonce 10^6", with(func(x *impl.Sub) { x.Nonce = 1000000 }), impl.OK},
		{"Nonce 10^6 + 1", with(func(x *impl.Sub) { x.Nonce = 1000001 }), impl.ErrRange},
		{"Other -1", with(func(x *impl.Sub) { x.Other = -1 }), impl.ErrRange},
		{"Other 0", with(func(x *impl.Sub) { x.Other = 0 }), impl.OK},
		{"Other 10^6", with(func(x *impl.Sub) { x.Other = 1000000 }), impl.OK},
		{"Other 10^6 + 1", with(func(x *impl.Sub) { x.Other = 1000001 }), impl.ErrRange},
		{"Sent -1", with(func(x *impl.Sub) { x.Sent = -1 }), impl.ErrRange},
		{"Sent 0", with(func(x *impl.Sub) { x.Sent = 0 }), impl.OK},
		{"Sent 10^6", with(func(x *impl.Sub) { x.Sent = 1000000 }), impl.OK},
		{"Sent 10^6 + 1", with(func(x *impl.Sub) { x.Sent = 1000001 }), impl.ErrRange},
		{"a sender that begins at 65536", with(func(x *impl.Sub) { x.Send.Start = 65536 }), impl.ErrRange},
		{"13 flights", with(func(x *impl.Sub) { x.Send = fullSender(0, 0, 13, 1) }), impl.ErrMany},
		{"a flight that is not where it is", with(func(x *impl.Sub) { x.Send.Next = 9 }), impl.ErrForm},
		{"a catch that begins at -1", with(func(x *impl.Sub) { x.Catch.Start = -1 }), impl.ErrRange},
		{"21 spans", with(func(x *impl.Sub) { x.Catch = spanComb(0, 0, 21, 1, 1) }), impl.ErrMany},
		{"a span of no places", with(func(x *impl.Sub) { x.Catch = catchWith(0, 0, span(4, 4)) }), impl.ErrForm},
		{"Window 7", windowed(openSub(), 7, 64, 0), impl.ErrRange},
		{"Bound 65", windowed(openSub(), 16, 65, 0), impl.ErrRange},
		{"Part 64", windowed(openSub(), 16, 64, 64), impl.ErrRange},
		{"asked, nothing sent", subIn(impl.SubAsked, impl.Sender{Start: 5}), impl.OK},
		{"asked, with a flight", subIn(impl.SubAsked, sent), impl.ErrForm},
		{"asked, and what it sent is there", subIn(impl.SubAsked, impl.Sender{Start: 5, Next: 1, Acked: 1}), impl.ErrForm},
		{"answered, nothing sent", subIn(impl.SubAnswered, impl.Sender{Start: 5}), impl.OK},
		{"answered, with a flight", subIn(impl.SubAnswered, sent), impl.ErrForm},
		{"answered, and what it sent is there", subIn(impl.SubAnswered, impl.Sender{Start: 5, Next: 1000000, Acked: 1000000}), impl.ErrForm},
		{"open, nothing sent", openSub(), impl.OK},
		{"open, and what it sent is there", subIn(impl.SubOpen, impl.Sender{Next: 70, Acked: 70}), impl.OK},
		{"open, with 12 flights", subIn(impl.SubOpen, fullSender(5, 0, 12, 8)), impl.OK},
		{"closed, nothing sent", subIn(impl.SubClosed, impl.Sender{Start: 5}), impl.OK},
		{"closed, with a flight", subIn(impl.SubClosed, sent), impl.ErrForm},
		{"closed, with 12 flights", subIn(impl.SubClosed, fullSender(5, 70, 12, 8)), impl.ErrForm},
		{"closed, and what it sent is there", subIn(impl.SubClosed, impl.Sender{Start: 5, Next: 70, Acked: 70}), impl.OK},
		{"closed, with no flights, but not nil", subIn(impl.SubClosed, impl.Sender{Flights: []impl.Flight{}}), impl.OK},
		{"nothing", impl.Sub{}, impl.ErrRange},
	}
	for _, row := range rows {
		if got := impl.SubFault(row.x); got != row.want {
			t.Errorf("%s: SubFault = %d, want %d", row.what, got, row.want)
		}
	}
}

// The order of the codes: numbers of the sub, its sender, its catch, its control, and what its state does not allow.
func TestSubFaultOrder(t *testing.T) {
	manyFlights, noLoad := fullSender(0, 0, 13, 1), senderWith(0, 0, flight(0, "", 1, 1))
	manySpans, noPlaces := spanComb(0, 0, 21, 1, 1), catchWith(0, 0, span(4, 4))
	some := senderWith(5, 0, flight(4, "abc", 2, 1))
	sub := func(path int64, state int64, s impl.Sender, c impl.Catch, window int64) impl.Sub {
		x := windowed(withCatch(subIn(state, s), c), window, 64, 0)
		x.Path = path
		return x
	}
	rows := []struct {
		what string
		x    impl.Sub
		want int64
	}{
		{"Path ahead of the sender", sub(3, impl.SubOpen, manyFlights, impl.Catch{}, 16), impl.ErrRange},
		{"State ahead of the sender", sub(1, 5, noLoad, impl.Catch{}, 16), impl.ErrRange},
		{"Path ahead of the catch", sub(-1, impl.SubOpen, some, manySpans, 16), impl.ErrRange},
		{"State ahead of the catch", sub(1, 0, some, noPlaces, 16), impl.ErrRange},
		{"Path ahead of the state's form", sub(3, impl.SubAsked, some, impl.Catch{}, 16), impl.ErrRange},
		{"the sender ahead of the catch", sub(1, impl.SubOpen, manyFlights, noPlaces, 16), impl.ErrMany},
		{"the sender ahead of the catch, changed about", sub(1, impl.SubOpen, noLoad, manySpans, 16), impl.ErrForm},
		{"the sender ahead of the control", sub(1, impl.SubOpen, manyFlights, impl.Catch{}, 7), impl.ErrMany},
		{"the sender ahead of all", sub(1, impl.SubAsked, manyFlights, noPlaces, 7), impl.ErrMany},
		{"the sender's range ahead of the catch", sub(1, impl.SubOpen, impl.Sender{Start: -1}, manySpans, 16), impl.ErrRange},
		{"the sender ahead of the state's form", sub(1, impl.SubClosed, manyFlights, impl.Catch{}, 16), impl.ErrMany},
		{"the catch ahead of the control", sub(1, impl.SubOpen, some, manySpans, 7), impl.ErrMany},
		{"the catch ahead of the control, by its form", sub(1, impl.SubOpen, some, noPlaces, 65), impl.ErrForm},
		{"the catch ahead of the state's form", sub(1, impl.SubAsked, some, manySpans, 16), impl.ErrMany},
		{"the catch ahead of a closed one's form", sub(1, impl.SubClosed, some, catchWith(65536, 0), 16), impl.ErrRange},
		{"the control ahead of the state's form", sub(1, impl.SubAsked, some, impl.Catch{}, 7), impl.ErrRange},
		{"the control ahead of an answered one's form", sub(1, impl.SubAnswered, some, impl.Catch{}, 65), impl.ErrRange},
		{"the control ahead of a closed one's form", sub(1, impl.SubClosed, some, impl.Catch{}, 0), impl.ErrRange},
	}
	for _, row := range rows {
		if got := impl.SubFault(row.x); got != row.want {
			t.Errorf("%s: SubFault = %d, want %d", row.what, got, row.want)
		}
	}
	for _, of := range []func(x *impl.Sub) *int64{func(x *impl.Sub) *int64 { return &x.Nonce }, func(x *impl.Sub) *int64 { return &x.Other }, func(x *impl.Sub) *int64 { return &x.Sent }} {
		for _, n := range []int64{-1, 1000001} {
			x := sub(1, impl.SubAsked, manyFlights, noPlaces, 16)
			*of(&x) = n
			if got := impl.SubFault(x); got != impl.ErrRange {
				t.Errorf("a number of the sub is %d, its sender has too many: %d", n, got)
			}
		}
	}
}

func TestSubFaultAgainstModel(t *testing.T) {
	codes := map[int64]int{}
	turnedSubs(func(x impl.Sub) {
		got, want := impl.SubFault(x), subFaultModel(x)
		if got != want {
			t.Fatalf("SubFault(%+v) = %d, want %d", x, got, want)
		}
		codes[got]++
	})
	for _, code := range []int64{impl.OK, impl.ErrForm, impl.ErrMany, impl.ErrRange} {
		if codes[code] < 50 {
			t.Errorf("the code %d came only %d times", code, codes[code])
		}
	}
	for _, x := range slices.Concat(rightSubs(), drawnSubs(300)) {
		if got := impl.SubFault(x); got != impl.OK || subFaultModel(x) != impl.OK {
			t.Errorf("SubFault(%+v) = %d", x, got)
		}
	}
	for _, x := range wrongSubs() {
		if got := impl.SubFault(x); got == impl.OK || got != subFaultModel(x) {
			t.Errorf("SubFault(%+v) = %d", x, got)
		}
	}
}

// Whatever fault a sender, a catch or a control has, a sub that has it has that one, too.
func TestSubFaultOfEachPart(t *testing.T) {
	x := openSub(flight(4, "abc", 2, 1))
	count := 0
	turnedSenders(func(s impl.Sender) {
		if count++; count%7 == 0 && impl.SubFault(subIn(impl.SubOpen, s)) != senderFaultModel(s) {
			t.Fatalf("with the sender %+v: SubFault = %d", s, impl.SubFault(subIn(impl.SubOpen, s)))
		}
	})
	turnedCatches(func(c impl.Catch) {
		if count++; count%7 == 0 && impl.SubFault(withCatch(x, c)) != catchFaultModel(c) {
			t.Fatalf("with the catch %+v: SubFault = %d", c, impl.SubFault(withCatch(x, c)))
		}
	})
	for _, c := range edgeControls() {
		x.Control = c
		if got := impl.SubFault(x); got != controlFaultModel(c) {
			t.Fatalf("with the control %+v: SubFault = %d", c, got)
		}
	}
}

// With a sub that has a fault every function tells its code, whatever else is wrong, and zero beside it.
func TestSubFaultIsAskedFirst(t *testing.T) {
	check := func(x impl.Sub) {
		fault := subFaultModel(x)
		if fault == impl.OK {
			return
		}
		none, noNumber := impl.SubResult{Code: fault}, impl.IntResult{Code: fault}
		for _, n := range []int64{0, 8, -1, math.MaxInt64} {
			for _, others := range [][]int64{nil, {16}, {7}} {
				if got := impl.AckSub(x, n, others); !sameSubs(got, none) {
					t.Fatalf("AckSub(%+v, %d, %v) = %+v, want the code %d", x, n, others, got, fault)
				}
			}
			if impl.CoversData(x, n, n) || impl.CoversData(x, 0, 400) {
				t.Fatalf("CoversData(%+v) is true, it has the fault %d", x, fault)
			}
		}
		if got := impl.CloseSub(x); !sameSubs(got, none) {
			t.Fatalf("CloseSub(%+v) = %+v, want the code %d", x, got, fault)
		}
		if room, stale := impl.RoomOf(x), impl.StaleOf(x); room != noNumber || stale != noNumber {
			t.Fatalf("of %+v: RoomOf %+v, StaleOf %+v, want the code %d", x, room, stale, fault)
		}
	}
	turnedSubs(check)
	for _, x := range wrongSubs() {
		check(x)
	}
}

func TestNewSub(t *testing.T) {
	got := impl.NewSub(1, 5, true, 3, 2)
	want := impl.Sub{Path: 1, State: impl.SubAsked, Join: true, Nonce: 3, Sent: 2, Send: impl.Sender{Start: 5}, Control: impl.Control{Window: 16, Bound: 64}}
	if !sameSubs(got, impl.SubResult{Sub: want}) {
		t.Errorf("NewSub(1, 5, true, 3, 2) = %+v", got)
	}
	rows := []struct{ path, start, nonce, now, code int64 }{
		{0, 0, 0, 0, impl.OK}, {2, 65535, 1000000, 1000000, impl.OK},
		{-1, 0, 0, 0, impl.ErrRange}, {3, 0, 0, 0, impl.ErrRange}, {math.MinInt64, 0, 0, 0, impl.ErrRange}, {math.MaxInt64, 0, 0, 0, impl.ErrRange},
		{0, -1, 0, 0, impl.ErrRange}, {0, 65536, 0, 0, impl.ErrRange}, {0, math.MinInt64, 0, 0, impl.ErrRange}, {0, math.MaxInt64, 0, 0, impl.ErrRange},
		{0, 0, -1, 0, impl.ErrRange}, {0, 0, 1000001, 0, impl.ErrRange}, {0, 0, math.MinInt64, 0, impl.ErrRange}, {0, 0, math.MaxInt64, 0, impl.ErrRange},
		{0, 0, 0, -1, impl.ErrRange}, {0, 0, 0, 1000001, impl.ErrRange}, {0, 0, 0, math.MinInt64, impl.ErrRange}, {0, 0, 0, math.MaxInt64, impl.ErrRange},
		{-1, -1, -1, -1, impl.ErrRange}, {3, 65536, 1000001, 1000001, impl.ErrRange},
	}
	for _, row := range rows {
		if got := impl.NewSub(row.path, row.start, false, row.nonce, row.now); got.Code != row.code || !sameSubs(got, newSubModel(row.path, row.start, false, row.nonce, row.now)) {
			t.Errorf("NewSub(%d, %d, false, %d, %d) = %+v", row.path, row.start, row.nonce, row.now, got)
		}
	}
	for _, path := range aroundOf(0, 2) {
		for _, start := range aroundOf(0, 65535) {
			for _, nonce := range aroundOf(0, 1000000) {
				for _, now := range aroundOf(0, 1000000) {
					join := (path+start+nonce+now)%2 == 0
					if got := impl.NewSub(path, start, join, nonce, now); !sameSubs(got, newSubModel(path, start, join, nonce, now)) {
						t.Fatalf("NewSub(%d, %d, %v, %d, %d) = %+v", path, start, join, nonce, now, got)
					}
				}
			}
		}
	}
}

func TestAckSub(t *testing.T) {
	three := openSub(flight(4, "abc", 2, 1), flight(7, "defgh", 3, 2), flight(12, "i", 4, 3))
	slow := windowed(three, 16, 16, 0)
	rows := []struct {
		what    string
		x       impl.Sub
		ack     int64
		others  []int64
		acked   int64
		left    int
		control impl.Control
	}{
		{"nothing new", three, 5, nil, 0, 3, impl.Control{Window: 16, Bound: 64}},
		{"one flight", three, 8, nil, 3, 2, impl.Control{Window: 19, Bound: 64}},
		{"two flights", three, 13, nil, 8, 1, impl.Control{Window: 24, Bound: 64}},
		{"all", three, 14, nil, 9, 0, impl.Control{Window: 25, Bound: 64}},
		{"all, beside three", three, 14, []int64{16, 8, 64}, 9, 0, impl.Control{Window: 25, Bound: 64}},
		{"all, as a number that goes round", three, 14 + 65536, nil, 9, 0, impl.Control{Window: 25, Bound: 64}},
		{"slowly, one flight", slow, 8, nil, 3, 2, impl.Control{Window: 17, Bound: 16, Part: 32}},
		{"slowly, two flights", slow, 13, nil, 8, 1, impl.Control{Window: 20, Bound: 16}},
		{"slowly, two flights, no others", slow, 13, []int64{}, 8, 1, impl.Control{Window: 20, Bound: 16}},
		{"slowly, two flights, beside one", slow, 13, []int64{16}, 8, 1, impl.Control{Window: 18, Bound: 16}},
		{"slowly, two flights, beside three", slow, 13, []int64{16, 16, 16}, 8, 1, impl.Control{Window: 17, Bound: 16}},
		{"slowly, nothing new", windowed(slow, 16, 16, 63), 5, nil, 0, 3, impl.Control{Window: 16, Bound: 16, Part: 63}},
		{"up to its Bound", windowed(three, 16, 20, 5), 14, nil, 9, 0, impl.Control{Window: 20, Bound: 20, Part: 5}},
		{"up to the most", windowed(three, 60, 64, 5), 14, nil, 9, 0, impl.Control{Window: 64, Bound: 64}},
		{"at the most, nothing new", windowed(three, 64, 64, 5), 5, nil, 0, 3, impl.Control{Window: 64, Bound: 64, Part: 5}},
		{"at the most, all", windowed(three, 64, 64, 5), 14, nil, 9, 0, impl.Control{Window: 64, Bound: 64}},
	}
	for _, row := range rows {
		want := cloneSub(row.x)
		want.Send.Acked, want.Send.Flights = row.acked, want.Send.Flights[3-row.left:]
		want.Control = row.control
		if got := impl.AckSub(row.x, row.ack, row.others); !sameSubs(got, impl.SubResult{Sub: want}) {
			t.Errorf("%s: AckSub of %d beside %v = %+v, want %+v", row.what, row.ack, row.others, got, want)
		}
	}
}

// What is not open has nothing on its way: an ack of what it knows changes nothing, another one is not taken.
func TestAckSubThatIsNotOpen(t *testing.T) {
	for _, state := range subStates() {
		acked := int64(0)
		if state >= impl.SubOpen {
			acked = 70
		}
		x := windowed(subIn(state, impl.Sender{Start: 65530, Next: acked, Acked: acked}), 16, 16, 9)
		for _, others := range everyOthers() {
			if got := impl.AckSub(x, 65530+acked, others); !sameSubs(got, impl.SubResult{Sub: x}) {
				t.Errorf("AckSub(%+v) of what it knows, beside %v = %+v", x, others, got)
			}
			if got := impl.AckSub(x, 65530+acked+1, others); !sameSubs(got, impl.SubResult{Code: impl.ErrRange}) {
				t.Errorf("AckSub(%+v) of more, beside %v = %+v", x, others, got)
			}
			if got := impl.AckSub(x, 65529, others); !sameSubs(got, impl.SubResult{Code: impl.ErrNone}) {
				t.Errorf("AckSub(%+v) of less than nothing, beside %v = %+v", x, others, got)
			}
		}
	}
}

// The code of the ack is asked ahead of others, and these only where something came there.
func TestAckSubWrong(t *testing.T) {
	x := openSub(flight(4, "abc", 2, 1), flight(7, "de", 3, 2))
	for _, others := range everyOthers() {
		for _, ack := range []int64{6, 7, 9} {
			if got := impl.AckSub(x, ack, others); !sameSubs(got, impl.SubResult{Code: impl.ErrForm}) {
				t.Errorf("AckSub within a flight, %d beside %v = %+v", ack, others, got)
			}
		}
		for _, ack := range []int64{11, 12, 32767} {
			if got := impl.AckSub(x, ack, others); !sameSubs(got, impl.SubResult{Code: impl.ErrRange}) {
				t.Errorf("AckSub above Next, %d beside %v = %+v", ack, others, got)
			}
		}
		for _, ack := range []int64{4, 0, -1, 65535, math.MaxInt64, math.MinInt64} {
			if got := impl.AckSub(x, ack, others); !sameSubs(got, impl.SubResult{Code: impl.ErrNone}) {
				t.Errorf("AckSub ahead of the first place, %d beside %v = %+v", ack, others, got)
			}
		}
		if got := impl.AckSub(x, 5, others); !sameSubs(got, impl.SubResult{Sub: x}) {
			t.Errorf("AckSub of nothing new beside %v = %+v", others, got)
		}
	}
	for _, others := range wrongOthers() {
		for _, ack := range []int64{8, 10} {
			for _, control := range []impl.Control{{Window: 16, Bound: 64}, {Window: 16, Bound: 16}, {Window: 64, Bound: 64}} {
				x.Control = control
				if got := impl.AckSub(x, ack, others); !sameSubs(got, impl.SubResult{Code: impl.ErrRange}) {
					t.Errorf("AckSub of %d beside %v = %+v", ack, others, got)
				}
			}
		}
	}
}

func TestAckSubAgainstModel(t *testing.T) {
	draw := rand.New(rand.NewSource(80))
	for _, x := range slices.Concat(rightSubs(), wrongSubs(), drawnSubs(150)) {
		acks := append(edgeNumbers(), x.Send.Start, x.Send.Start-1, x.Send.Start+x.Send.Acked-1)
		for place := x.Send.Acked; x.Send.Acked >= 0 && x.Send.Acked <= 1000000 && place <= x.Send.Acked+100; place++ {
			acks = append(acks, x.Send.Start+place)
		}
		sets := everyOthers()
		for _, ack := range acks {
			for _, others := range [][]int64{nil, sets[draw.Intn(len(sets))], drawnOthers(draw)} {
				if got, want := impl.AckSub(x, ack, others), ackSubModel(x, ack, others); !sameSubs(got, want) {
					t.Fatalf("AckSub(%+v, %d, %v) = %+v, want %+v", x, ack, others, got, want)
				}
			}
		}
	}
	for _, x := range []impl.Sub{openSub(), subIn(impl.SubOpen, fullSender(65500, 0, 12, 8)), subIn(impl.SubOpen, fullSender(65535, 999904, 12, 8)), subIn(impl.SubAsked, impl.Sender{Start: 65535})} {
		for ack := int64(0); ack < 65536; ack++ {
			if got, want := impl.AckSub(x, ack, []int64{20}), ackSubModel(x, ack, []int64{20}); !sameSubs(got, want) {
				t.Fatalf("AckSub(%+v, %d) = %+v, want %+v", x, ack, got, want)
			}
		}
	}
}

func TestRoomOf(t *testing.T) {
	rows := []struct {
		what string
		x    impl.Sub
		want int64
	}{
		{"nothing on its way", openSub(), 16},
		{"three bytes", openSub(flight(4, "abc", 2, 1)), 13},
		{"all but one", windowed(openSub(flight(0, "abcdefg", 2, 1)), 8, 64, 0), 1},
		{"just the window", windowed(openSub(flight(0, "abcdefgh", 2, 1)), 8, 64, 0), 0},
		{"one more than the window", windowed(openSub(flight(0, "abcdefgh", 2, 1), flight(8, "i", 2, 1)), 8, 64, 0), 0},
		{"far more than the window", windowed(subIn(impl.SubOpen, fullSender(0, 0, 11, 8)), 8, 64, 63), 0},
		{"the most, nothing on its way", windowed(openSub(), 64, 64, 0), 64},
		{"the most, 11 flights", windowed(subIn(impl.SubOpen, fullSender(0, 0, 11, 1)), 64, 64, 0), 53},
		{"the most, 12 flights", windowed(subIn(impl.SubOpen, fullSender(0, 0, 12, 1)), 64, 64, 0), 0},
		{"what came there takes no room", windowed(subIn(impl.SubOpen, senderWith(0, 5000, flight(0, "ab", 2, 1))), 20, 0, 5), 18},
		{"at the last place", windowed(subIn(impl.SubOpen, impl.Sender{Next: 1000000, Acked: 1000000}), 20, 0, 5), 20},
		{"asked", windowed(subIn(impl.SubAsked, impl.Sender{}), 64, 64, 0), 0},
		{"answered", windowed(subIn(impl.SubAnswered, impl.Sender{}), 64, 64, 0), 0},
		{"closed", windowed(subIn(impl.SubClosed, impl.Sender{}), 64, 64, 0), 0},
		{"closed, and what it sent is there", windowed(subIn(impl.SubClosed, impl.Sender{Next: 9, Acked: 9}), 64, 64, 0), 0},
	}
	for _, row := range rows {
		if got := impl.RoomOf(row.x); got != (impl.IntResult{Value: row.want}) {
			t.Errorf("%s: RoomOf = %+v, want %d", row.what, got, row.want)
		}
	}
	for _, x := range slices.Concat(rightSubs(), wrongSubs(), drawnSubs(300)) {
		if got, want := impl.RoomOf(x), roomModel(x); got != want {
			t.Errorf("RoomOf(%+v) = %+v, want %+v", x, got, want)
		}
	}
}

func TestStaleOf(t *testing.T) {
	tries := func(list ...int64) impl.Sub {
		var flights []impl.Flight
		for _, n := range list {
			flights = append(flights, flight(0, "ab", 1, n))
		}
		return openSub(flights...)
	}
	rows := []struct {
		x    impl.Sub
		want int64
	}{
		{tries(), 0}, {tries(1), 0}, {tries(2), 0}, {tries(3), 1}, {tries(4), 1}, {tries(1000), 1},
		{tries(1, 2, 3), 1}, {tries(3, 2, 1), 1}, {tries(2, 2, 2), 0}, {tries(3, 3, 3), 3}, {tries(1, 1000, 2, 4), 2},
		{tries(3, 3, 3, 3, 3, 3, 3, 3, 3, 3, 3, 3), 12}, {tries(1, 2, 3, 4, 1, 2, 3, 4, 1, 2, 3, 4), 6},
		{subIn(impl.SubAsked, impl.Sender{}), 0}, {subIn(impl.SubAnswered, impl.Sender{}), 0}, {subIn(impl.SubClosed, impl.Sender{Next: 9, Acked: 9}), 0},
	}
	for _, row := range rows {
		if got := impl.StaleOf(row.x); got != (impl.IntResult{Value: row.want}) {
			t.Errorf("StaleOf(%+v) = %+v, want %d", row.x, got, row.want)
		}
	}
	for _, x := range slices.Concat(rightSubs(), wrongSubs(), drawnSubs(300)) {
		if got, want := impl.StaleOf(x), staleModel(x); got != want {
			t.Errorf("StaleOf(%+v) = %+v, want %+v", x, got, want)
		}
	}
}

func TestCloseSub(t *testing.T) {
	x := impl.Sub{
		Path: 2, State: impl.SubOpen, Join: true, Nonce: 3, Other: 4, Sent: 5, Send: senderWith(65535, 70, flight(4, "abc", 2, 1), flight(7, "de", 2, 3)),
		Catch: catchWith(7, 5, span(8, 10)), Control: impl.Control{Window: 33, Bound: 12, Part: 40},
	}
	want := x
	want.State, want.Send = impl.SubClosed, impl.Sender{Start: 65535, Next: 70, Acked: 70}
	if got := impl.CloseSub(x); !sameSubs(got, impl.SubResult{Sub: want}) {
		t.Errorf("CloseSub(%+v) = %+v, want %+v", x, got, want)
	}
	for _, state := range subStates() {
		got := impl.CloseSub(subIn(state, impl.Sender{Start: 9}))
		if !sameSubs(got, impl.SubResult{Sub: subIn(impl.SubClosed, impl.Sender{Start: 9})}) {
			t.Errorf("CloseSub in the state %d = %+v", state, got)
		}
	}
	for _, x := range slices.Concat(rightSubs(), wrongSubs(), drawnSubs(300)) {
		if got, want := impl.CloseSub(x), closeModel(x); !sameSubs(got, want) {
			t.Errorf("CloseSub(%+v) = %+v, want %+v", x, got, want)
		}
	}
}

func TestCoversData(t *testing.T) {
	one := openSub(flight(4, "abc", 2, 1))
	two := openSub(flight(300, "de", 2, 1), flight(20, "abcdefgh", 2, 1000))
	end := openSub(flight(392, "abcdefgh", 2, 1))
	rows := []struct {
		what       string
		x          impl.Sub
		data, size int64
		want       bool
	}{
		{"the byte ahead", one, 3, 1, false}, {"the first one", one, 4, 1, true}, {"the middle", one, 5, 1, true}, {"the last one", one, 6, 1, true}, {"the one behind", one, 7, 1, false},
		{"up to the first one", one, 0, 4, false}, {"up to and with the first one", one, 0, 5, true}, {"just the flight", one, 4, 3, true}, {"over it", one, 0, 400, true}, {"from its last one on", one, 6, 400, true}, {"all behind", one, 7, 400, false},
		{"no places, at its first one", one, 4, 0, false}, {"no places, within it", one, 5, 0, false}, {"no places, behind it", one, 7, 0, false}, {"no places, ahead", one, 0, 0, false}, {"no places, at the end", one, 400, 0, false},
		{"size -1", one, 5, -1, false}, {"size 401", one, 0, 401, false}, {"size 400", one, 0, 400, true}, {"data -1", one, -1, 10, false}, {"data 401", one, 401, 1, false}, {"both -1", one, -1, -1, false},
		{"the least size", one, 5, math.MinInt64, false}, {"the greatest size", one, 5, math.MaxInt64, false}, {"the least data", one, math.MinInt64, 400, false}, {"the greatest data", one, math.MaxInt64, 400, false}, {"both greatest", one, math.MaxInt64, math.MaxInt64, false}, {"both least", one, math.MinInt64, math.MinInt64, false},
		{"the first of two", two, 301, 1, true}, {"the second of two", two, 27, 1, true}, {"between two", two, 28, 272, false}, {"between two, and one", two, 28, 273, true}, {"ahead of both", two, 0, 20, false}, {"behind both", two, 302, 98, false},
		{"the last byte of the stream", end, 399, 1, true}, {"from the last byte on", end, 399, 400, true}, {"behind the stream", end, 400, 400, false}, {"behind the stream, one", end, 400, 1, false}, {"ahead of the end", end, 0, 392, false},
		{"no flights", openSub(), 0, 400, false}, {"asked", subIn(impl.SubAsked, impl.Sender{}), 0, 400, false}, {"closed", subIn(impl.SubClosed, impl.Sender{Next: 9, Acked: 9}), 0, 400, false},
	}
	for _, row := range rows {
		if got := impl.CoversData(row.x, row.data, row.size); got != row.want {
			t.Errorf("%s: CoversData of %d, %d is %v", row.what, row.data, row.size, got)
		}
	}
}

func TestCoversDataAgainstModel(t *testing.T) {
	for _, x := range slices.Concat(rightSubs(), wrongSubs(), drawnSubs(100)) {
		datas := aroundOf(0, 200, 400)
		for _, f := range x.Send.Flights {
			datas = append(datas, f.Data-1, f.Data, f.Data+int64(len(f.Load))-1, f.Data+int64(len(f.Load)))
		}
		for _, data := range datas {
			for _, size := range append(aroundOf(0, 400), 2, 3, 9) {
				if got := impl.CoversData(x, data, size); got != coversModel(x, data, size) {
					t.Fatalf("CoversData(%+v, %d, %d) is %v", x, data, size, got)
				}
			}
		}
	}
	for _, x := range []impl.Sub{openSub(flight(4, "abc", 2, 1)), openSub(flight(20, "abcdefgh", 2, 1), flight(10, "ab", 2, 5), flight(10, "ab", 2, 1)), openSub(flight(40, "abcdefgh", 2, 1), flight(48, "i", 2, 1))} {
		for data := int64(-2); data <= 60; data++ {
			for size := int64(-2); size <= 60; size++ {
				if got := impl.CoversData(x, data, size); got != coversModel(x, data, size) {
					t.Fatalf("CoversData(%+v, %d, %d) is %v", x, data, size, got)
				}
			}
		}
	}
}
