package tests

import (
	"bytes"
	"math"
	"math/rand"
	"slices"
	"strings"
	"testing"

	"loop.example/g00230/impl"
)

// worldOf is a world of two conns and a net, each side of which got what was given there; only for conns without a fault.
func worldOf(now int64, a impl.Conn, b impl.Conn, n impl.Net) impl.World {
	w := impl.World{Now: now, Sides: []impl.Conn{cloneConn(a), cloneConn(b)}, Net: cloneNet(n), Ended: []bool{false, false}}
	for _, c := range w.Sides {
		w.Got = append(w.Got, slices.Clone(c.In.Done[:c.Given]))
	}
	return w
}

func sameWorld(a impl.World, b impl.World) bool {
	return a.Now == b.Now && slices.EqualFunc(a.Sides, b.Sides, sameConn) && sameNet(a.Net, b.Net) &&
		slices.EqualFunc(a.Got, b.Got, bytes.Equal) && slices.Equal(a.Ended, b.Ended)
}

func sameWorlds(a impl.WorldResult, b impl.WorldResult) bool {
	return a.Code == b.Code && bytes.Equal(a.Data, b.Data) && sameWorld(a.World, b.World)
}

func cloneWorld(w impl.World) impl.World {
	out := impl.World{Now: w.Now, Net: cloneNet(w.Net), Got: slices.Clone(w.Got), Ended: slices.Clone(w.Ended)}
	for _, c := range w.Sides {
		out.Sides = append(out.Sides, cloneConn(c))
	}
	for side := range out.Got {
		out.Got[side] = slices.Clone(out.Got[side])
	}
	return out
}

func cloneWorlds(r impl.WorldResult) impl.WorldResult {
	r.Data, r.World = slices.Clone(r.Data), cloneWorld(r.World)
	return r
}

// turned is that world with something other than it was.
func turned(w impl.World, turn func(w *impl.World)) impl.World {
	w = cloneWorld(w)
	turn(&w)
	return w
}

func worldFaultModel(w impl.World) int64 {
	switch {
	case w.Now <= -1, w.Now >= 100001:
		return impl.ErrRange
	case len(w.Sides)-2 != 0, len(w.Got)-2 != 0, len(w.Ended)-2 != 0:
		return impl.ErrForm
	}
	a, b := w.Sides[0], w.Sides[1]
	for _, fault := range []int64{connFaultModel(a), connFaultModel(b)} {
		if fault != impl.OK {
			return fault
		}
	}
	if 10*a.Side+b.Side != 1 {
		return impl.ErrForm
	}
	if fault := netFaultModel(w.Net); fault != impl.OK {
		return fault
	}
	for side, c := range w.Sides {
		if string(w.Got[side]) != string(c.In.Done)[:c.Given] {
			return impl.ErrForm
		}
	}
	return impl.OK
}

func newWorldModel(keyA int64, keyB int64) impl.WorldResult {
	if !isKey(keyA) || !isKey(keyB) {
		return impl.WorldResult{Code: impl.ErrRange}
	}
	a, b := impl.Conn{Key: keyA, FinIn: -1}, impl.Conn{Side: 1, Key: keyB, FinIn: -1}
	return impl.WorldResult{World: worldOf(0, a, b, netWith(deadMarks(0)))}
}

// didModel is what becomes of a world where a side answered that.
func didModel(w impl.World, side int64, did impl.ConnResult) impl.WorldResult {
	if did.Code != impl.OK {
		return impl.WorldResult{Code: did.Code}
	}
	out := impl.WorldResult{Data: did.Data, World: cloneWorld(w)}
	out.World.Sides[side] = did.Conn
	out.World.Net = putNetModel(w.Net, did.Send).Net
	out.World.Got[side] = slices.Concat(w.Got[side], did.Data)
	if did.End {
		out.World.Ended[side] = true
	}
	return out
}

// onSideModel is for what is done at a side that is told; do is asked only where there is one.
func onSideModel(w impl.World, side int64, do func(c impl.Conn) impl.ConnResult) impl.WorldResult {
	if fault := worldFaultModel(w); fault != impl.OK {
		return impl.WorldResult{Code: fault}
	}
	if side != 0 && side != 1 {
		return impl.WorldResult{Code: impl.ErrRange}
	}
	return didModel(w, side, do(w.Sides[side]))
}

func dialWorldModel(w impl.World, path int64, nonce int64) impl.WorldResult {
	return onSideModel(w, 0, func(c impl.Conn) impl.ConnResult { return dialModel(c, path, nonce, w.Now) })
}

func writeWorldModel(w impl.World, side int64, data []byte) impl.WorldResult {
	return onSideModel(w, side, func(c impl.Conn) impl.ConnResult { return writeModel(c, data) })
}

func readWorldModel(w impl.World, side int64, n int64) impl.WorldResult {
	return onSideModel(w, side, func(c impl.Conn) impl.ConnResult { return readModel(c, n) })
}

func endWorldModel(w impl.World, side int64) impl.WorldResult {
	return onSideModel(w, side, closeConnModel)
}

func deliverModel(w impl.World, at int64) impl.WorldResult {
	if fault := worldFaultModel(w); fault != impl.OK {
		return impl.WorldResult{Code: fault}
	}
	if at < 0 || at >= int64(len(w.Net.Bag)) {
		return impl.WorldResult{Code: impl.ErrNone}
	}
	hears := map[int64]int64{0: 1, 1: 0}[w.Net.Bag[at].From]
	taken := takeNetModel(w.Net, at)
	left := turned(w, func(w *impl.World) { w.Net = taken.Net })
	return didModel(left, hears, hearModel(w.Sides[hears], taken.Segment, w.Now))
}

func tickModel(w impl.World) impl.WorldResult {
	if fault := worldFaultModel(w); fault != impl.OK {
		return impl.WorldResult{Code: fault}
	}
	if w.Now == 100000 {
		return impl.WorldResult{Code: impl.ErrRange}
	}
	now := w.Now + 1
	later := turned(w, func(w *impl.World) { w.Now = now })
	first := didModel(later, 0, stepModel(w.Sides[0], now))
	return didModel(first.World, 1, stepModel(w.Sides[1], now))
}

func meddleModel(w impl.World, kind int64, at int64, place int64, mask int64) impl.WorldResult {
	if fault := worldFaultModel(w); fault != impl.OK {
		return impl.WorldResult{Code: fault}
	}
	if kind < 1 || kind > 5 {
		return impl.WorldResult{Code: impl.ErrForm}
	}
	did := map[int64]func() impl.NetResult{
		1: func() impl.NetResult { return takeNetModel(w.Net, at) },
		2: func() impl.NetResult { return copyNetModel(w.Net, at) },
		3: func() impl.NetResult { return stripNetModel(w.Net, at) },
		4: func() impl.NetResult { return alterNetModel(w.Net, at, place, mask) },
		5: func() impl.NetResult { return killPathModel(w.Net, at) },
	}[kind]()
	if did.Code != impl.OK {
		return impl.WorldResult{Code: did.Code}
	}
	return impl.WorldResult{World: turned(w, func(w *impl.World) { w.Net = did.Net })}
}

// sidesApart are conns without a fault, those of the side 0 and those of the side 1.
func sidesApart(conns []impl.Conn) (out [2][]impl.Conn) {
	for _, c := range conns {
		out[c.Side] = append(out[c.Side], c)
	}
	return out
}

// aimedNet has segments for both sides, each of which makes one of them do something, and so many in all.
func aimedNet(draw *rand.Rand, a impl.Conn, b impl.Conn, count int) impl.Net {
	n := impl.Net{Dead: deadMarks([]int{0, 0, 0, 1, 2, 4, 6}[draw.Intn(7)])}
	for tries := 0; tries < 50*count && len(n.Bag) < count; tries++ {
		g := drawnAimed(draw, []impl.Conn{a, b}[draw.Intn(2)])
		if !n.Dead[g.Path] && faultModel(g) == impl.OK {
			n.Bag = append(n.Bag, g)
		}
	}
	return n
}

// pairedWorlds are without a fault: conns of each kind beside one another, and nets with segments for both.
func pairedWorlds(count int, seed int64) (out []impl.World) {
	draw := rand.New(rand.NewSource(seed))
	sides := sidesApart(rightSteps())
	nows := []int64{0, 1, 3, 4, 7, 8, 11, 99998, 99999, 100000}
	for i := range count {
		a, b := sides[0][draw.Intn(len(sides[0]))], sides[1][draw.Intn(len(sides[1]))]
		size := []int{0, 1, 2, 6, 12, 6, 12, 58, 59, 60}[i%10]
		w := worldOf(nows[draw.Intn(len(nows))], a, b, aimedNet(draw, a, b, size))
		w.Ended = []bool{draw.Intn(3) == 0, draw.Intn(3) == 0}
		out = append(out, w)
	}
	return out
}

// openWorld is a new world with that first path open at both sides, at the tick 0.
func openWorld(path int64) impl.World {
	w := impl.DialWorld(impl.NewWorld(5, 7).World, path, 3).World
	for range 3 {
		w = impl.DeliverWorld(w, 0).World
	}
	return w
}

// livedWorlds came of new ones by many calls, as drawn; each call without a code leads one on.
func livedWorlds(rounds int, seed int64, tell func(w impl.World)) {
	draw := rand.New(rand.NewSource(seed))
	for range rounds {
		w := impl.NewWorld(1+draw.Int63n(999999), 1+draw.Int63n(999999)).World
		for range 150 {
			if got := drawnCall(draw, w); got.Code == impl.OK {
				w = got.World
			}
			tell(w)
		}
	}
}

func drawnCall(draw *rand.Rand, w impl.World) impl.WorldResult {
	at, side := draw.Int63n(int64(len(w.Net.Bag))+1), draw.Int63n(2)
	switch n := draw.Intn(40); {
	case n < 4:
		return impl.DialWorld(w, draw.Int63n(3), draw.Int63n(1000001))
	case n < 8:
		return impl.WriteWorld(w, side, lettersOf(draw.Intn(40)))
	case n < 10:
		return impl.ReadWorld(w, side, draw.Int63n(30))
	case n == 10 && draw.Intn(4) == 0:
		return impl.EndWorld(w, side)
	case n < 18:
		return impl.TickWorld(w)
	case n < 19 && draw.Intn(5) > 0:
		return impl.MeddleWorld(w, 1+draw.Int63n(4), at, draw.Int63n(8), 1+draw.Int63n(255))
	case n == 19 && draw.Intn(5) == 0:
		return impl.MeddleWorld(w, 5, draw.Int63n(3), 0, 0)
	}
	return impl.DeliverWorld(w, at)
}

// rightWorlds are without a fault.
func rightWorlds(count int, seed int64) (out []impl.World) {
	k := 0
	livedWorlds(count/10, seed, func(w impl.World) {
		if k++; k%17 == 0 {
			out = append(out, w)
		}
	})
	return slices.Concat(out, pairedWorlds(count, seed+1), []impl.World{impl.NewWorld(1, 999999).World, openWorld(0), openWorld(2)})
}

// worldRow is a world with what is wrong of it.
type worldRow struct {
	name string
	w    impl.World
	want int64
}

func plainWorld() impl.World {
	return worldOf(3, connAt(0, pathsOf(1, impl.SubOpen)...), connAt(1, pathsOf(1, impl.SubOpen)...), netWith(deadMarks(1), manySegmentsOn(4, 1, 2)...))
}

// wrongSide has a fault in one conn; each of them has another code.
func wrongSide(w *impl.World, side int, code int64) {
	switch c := &w.Sides[side]; code {
	case impl.ErrRange:
		c.Key = 0
	case impl.ErrMany:
		c.Wrote = lettersOf(301)
	case impl.ErrForm:
		c.FinDone = true
	case impl.ErrTaken:
		c.Subs = append(c.Subs, pathOf(1, impl.SubOpen, true))
	}
}

func worldRows() (out []worldRow) {
	add := func(name string, want int64, turn func(w *impl.World)) {
		out = append(out, worldRow{name, turned(plainWorld(), turn), want})
	}
	addNows(add)
	addCounts(add)
	addSides(add)
	addNetFaults(add)
	addGots(add)
	return out
}

func addNows(add func(name string, want int64, turn func(w *impl.World))) {
	for _, now := range []int64{0, 1, 99999, 100000} {
		add("a right Now", impl.OK, func(w *impl.World) { w.Now = now })
	}
	for _, now := range []int64{-1, 100001, 1000000, math.MinInt64, math.MaxInt64} {
		add("a wrong Now", impl.ErrRange, func(w *impl.World) { w.Now = now })
		add("a wrong Now, and no Sides", impl.ErrRange, func(w *impl.World) { w.Now, w.Sides = now, nil })
		add("a wrong Now, and a conn with too much", impl.ErrRange, func(w *impl.World) { w.Now = now; wrongSide(w, 0, impl.ErrMany) })
		add("a wrong Now, and a net with none Dead", impl.ErrRange, func(w *impl.World) { w.Now, w.Net = now, impl.Net{} })
		add("a wrong Now alone", impl.ErrRange, func(w *impl.World) { *w = impl.World{Now: now} })
	}
}

func addCounts(add func(name string, want int64, turn func(w *impl.World))) {
	for _, count := range []int{0, 1, 3, 4} {
		add("Sides not 2", impl.ErrForm, func(w *impl.World) { w.Sides = slices.Concat(w.Sides, w.Sides)[:count] })
		add("Got not 2", impl.ErrForm, func(w *impl.World) { w.Got = slices.Concat(w.Got, w.Got)[:count] })
		add("Ended not 2", impl.ErrForm, func(w *impl.World) { w.Ended = slices.Concat(w.Ended, w.Ended)[:count] })
		add("Sides not 2, with a conn with too much", impl.ErrForm, func(w *impl.World) {
			wrongSide(w, 0, impl.ErrMany)
			w.Sides = slices.Concat(w.Sides, w.Sides)[:count]
		})
		add("Got not 2, with a conn with too much", impl.ErrForm, func(w *impl.World) {
			wrongSide(w, 1, impl.ErrMany)
			w.Got = slices.Concat(w.Got, w.Got)[:count]
		})
		add("Ended not 2, with a net of too many", impl.ErrForm, func(w *impl.World) {
			w.Net.Bag = manySegmentsOn(61, 2)
			w.Ended = slices.Concat(w.Ended, w.Ended)[:count]
		})
	}
	add("the zero value", impl.ErrForm, func(w *impl.World) { *w = impl.World{} })
	for bits := range 4 {
		add("any Ended", impl.OK, func(w *impl.World) { w.Ended = []bool{bits%2 == 1, bits/2 == 1} })
	}
}

func addSides(add func(name string, want int64, turn func(w *impl.World))) {
	codes := []int64{impl.ErrRange, impl.ErrMany, impl.ErrForm, impl.ErrTaken}
	for i, code := range codes {
		other := codes[(i+1)%len(codes)]
		add("a fault in the first conn", code, func(w *impl.World) { wrongSide(w, 0, code) })
		add("a fault in the second conn", code, func(w *impl.World) { wrongSide(w, 1, code) })
		add("a fault in both conns", code, func(w *impl.World) { wrongSide(w, 0, code); wrongSide(w, 1, other) })
		for side := range 2 {
			add("a fault in a conn, and both are of the side 0", code, func(w *impl.World) { w.Sides[1].Side = 0; wrongSide(w, side, code) })
			add("a fault in a conn, and they are turned round", code, func(w *impl.World) { wrongSide(w, side, code); slices.Reverse(w.Sides) })
			add("a fault in a conn, and a net of too many", code, func(w *impl.World) { wrongSide(w, side, code); w.Net.Bag = manySegmentsOn(61, 2) })
			add("a fault in a conn, and a wrong Got", code, func(w *impl.World) { wrongSide(w, side, code); w.Got[side] = nil })
		}
	}
	add("both of the side 0", impl.ErrForm, func(w *impl.World) { w.Sides[1].Side = 0 })
	add("both of the side 1", impl.ErrForm, func(w *impl.World) { w.Sides[0].Side = 1 })
	add("1 ahead of 0", impl.ErrForm, func(w *impl.World) { slices.Reverse(w.Sides) })
	add("1 ahead of 0, with their numbers alone", impl.ErrForm, func(w *impl.World) { w.Sides[0].Side, w.Sides[1].Side = 1, 0 })
	add("a Side that is none", impl.ErrRange, func(w *impl.World) { w.Sides[1].Side = 2 })
	add("1 ahead of 0, and a net of too many", impl.ErrForm, func(w *impl.World) { slices.Reverse(w.Sides); w.Net.Bag = manySegmentsOn(61, 2) })
	add("both of the side 1, and of a dead path", impl.ErrForm, func(w *impl.World) { w.Sides[0].Side = 1; w.Net.Bag[0].Path = 0 })
}

func addNetFaults(add func(name string, want int64, turn func(w *impl.World))) {
	for _, row := range netRows() {
		add("a net: "+row.name, row.want, func(w *impl.World) { w.Net = cloneNet(row.n) })
		if row.want == impl.OK {
			continue
		}
		for side := range 2 {
			add("a wrong Got beside a net: "+row.name, row.want, func(w *impl.World) { w.Net = cloneNet(row.n); w.Got[side] = []byte("zz") })
		}
	}
}

// addGots leans on the conns of plainWorld: of "abcdef" two bytes are Given.
func addGots(add func(name string, want int64, turn func(w *impl.World))) {
	for side := range 2 {
		for _, got := range []string{"", "a", "abc", "abcdef", "ac", "bb", "cd", "ba", "AB", "ab\x00", "\x00\x00", "abab", string(lettersOf(400)), string(lettersOf(500))} {
			add("Got is otherwise: "+got, impl.ErrForm, func(w *impl.World) { w.Got[side] = []byte(got) })
		}
		for given := range int64(7) {
			add("Given and Got together", impl.OK, func(w *impl.World) { w.Sides[side].Given, w.Got[side] = given, []byte("abcdef"[:given]) })
			if given != 2 {
				add("Given alone", impl.ErrForm, func(w *impl.World) { w.Sides[side].Given = given })
			}
		}
		add("Got of no bytes where none was Given", impl.OK, func(w *impl.World) { w.Sides[side].Given, w.Got[side] = 0, []byte{} })
		add("other bytes are Done", impl.ErrForm, func(w *impl.World) { w.Sides[side].In.Done[1] = 'x' })
		add("other bytes are Done behind what was Given", impl.OK, func(w *impl.World) { w.Sides[side].In.Done[2] = 'x' })
	}
	add("Got of one side at the other one", impl.ErrForm, func(w *impl.World) {
		w.Sides[0].Given, w.Got[0] = 1, []byte("a")
		slices.Reverse(w.Got)
	})
	add("Got of one side at the other one, of as many", impl.ErrForm, func(w *impl.World) {
		w.Sides[1].In.Done, w.Got[1] = []byte("uvwxyz"), []byte("uv")
		slices.Reverse(w.Got)
	})
}

func wrongWorlds() (out []impl.World) {
	for _, row := range worldRows() {
		if row.want != impl.OK {
			out = append(out, row.w)
		}
	}
	return out
}

func TestWorldConstants(t *testing.T) {
	if impl.MaxNow != 100000 {
		t.Error("a constant of chapter 13 is not as the document has it")
	}
}

func TestWorldFault(t *testing.T) {
	for _, row := range worldRows() {
		if got := impl.WorldFault(row.w); got != row.want {
			t.Errorf("WorldFault of %s = %d, want %d: %+v", row.name, got, row.want, row.w)
		}
	}
}

func TestWorldFaultAgainstModel(t *testing.T) {
	check := func(w impl.World) {
		if got, want := impl.WorldFault(w), worldFaultModel(w); got != want {
			t.Fatalf("WorldFault(%+v) = %d, want %d", w, got, want)
		}
	}
	for _, w := range rightWorlds(100, 390) {
		if got := impl.WorldFault(w); got != impl.OK {
			t.Fatalf("WorldFault(%+v) = %d", w, got)
		}
	}
	base := plainWorld()
	for i, c := range slices.Concat(wrongConns(), drawnConns(100), hearingConns()) {
		for side := range 2 {
			check(turned(base, func(w *impl.World) { w.Sides[side] = c }))
			check(turned(base, func(w *impl.World) { w.Sides[side] = c; wrongSide(w, 1-side, impl.ErrTaken) }))
			if connFaultModel(c) == impl.OK {
				check(turned(base, func(w *impl.World) { w.Sides[side], w.Got[side] = c, c.In.Done[:c.Given] }))
				check(turned(base, func(w *impl.World) { w.Sides[side], w.Got[side] = c, c.In.Done[:max(c.Given-1, 0)] }))
			}
		}
		if i%7 == 0 {
			check(turned(base, func(w *impl.World) { w.Sides = []impl.Conn{c, c} }))
		}
	}
}

// With each fault of a world all functions tell it, whatever else they are asked.
func TestWorldFaultIsAskedFirst(t *testing.T) {
	for _, row := range worldRows() {
		if row.want == impl.OK {
			continue
		}
		for _, n := range []int64{math.MinInt64, -1, 0, 1, 2, 5, 6, 60, math.MaxInt64} {
			all := []impl.WorldResult{
				impl.DialWorld(row.w, n, n), impl.WriteWorld(row.w, n, nil), impl.WriteWorld(row.w, n, lettersOf(301)), impl.ReadWorld(row.w, n, n), impl.EndWorld(row.w, n),
				impl.DeliverWorld(row.w, n), impl.TickWorld(row.w), impl.MeddleWorld(row.w, n, n, n, n), impl.MeddleWorld(row.w, 4, n, 0, 0), impl.MeddleWorld(row.w, 5, n, 0, 0),
			}
			for i, got := range all {
				if !sameWorlds(got, impl.WorldResult{Code: row.want}) {
					t.Fatalf("%s, call %d with %d: %+v, want the code %d alone", row.name, i, n, got, row.want)
				}
			}
		}
	}
}

func TestNewWorld(t *testing.T) {
	w := impl.World{
		Sides: []impl.Conn{{Side: 0, Key: 5, FinIn: -1}, {Side: 1, Key: 7, FinIn: -1}},
		Net:   impl.Net{Dead: []bool{false, false, false}},
		Got:   [][]byte{nil, nil},
		Ended: []bool{false, false},
	}
	if got := impl.NewWorld(5, 7); !sameWorlds(got, impl.WorldResult{World: w}) {
		t.Errorf("NewWorld(5, 7) = %+v", got)
	}
	keys := append(aroundOf(0, 1, 999999, 1000000), 5, 5)
	for _, a := range keys {
		for _, b := range keys {
			if got, want := impl.NewWorld(a, b), newWorldModel(a, b); !sameWorlds(got, want) {
				t.Errorf("NewWorld(%d, %d) = %+v, want %+v", a, b, got, want)
			}
		}
	}
}

// A side that is none is told ahead of what the conn would tell, and behind the world's own fault.
func TestWorldSides(t *testing.T) {
	ended := turned(openWorld(0), func(w *impl.World) { w.Sides[0].Fin, w.Sides[1].Fin = true, true })
	for _, w := range []impl.World{openWorld(0), plainWorld(), ended} {
		for _, side := range []int64{math.MinInt64, -2, -1, 2, 3, 1 << 32, math.MaxInt64} {
			for _, got := range []impl.WorldResult{
				impl.WriteWorld(w, side, []byte("x")), impl.WriteWorld(w, side, lettersOf(301)), impl.ReadWorld(w, side, 1),
				impl.ReadWorld(w, side, 1001), impl.ReadWorld(w, side, -1), impl.EndWorld(w, side),
			} {
				if !sameWorlds(got, impl.WorldResult{Code: impl.ErrRange}) {
					t.Errorf("the side %d: %+v", side, got)
				}
			}
		}
	}
}

func TestDialWorld(t *testing.T) {
	w := turned(impl.NewWorld(5, 7).World, func(w *impl.World) { w.Now = 9 })
	start := leftOf(whole(mixModel(5, 3)))
	got := impl.DialWorld(w, 1, 77)
	want := turned(w, func(w *impl.World) {
		w.Sides[0].Subs = []impl.Sub{{Path: 1, State: impl.SubAsked, Nonce: 77, Sent: 9, Send: impl.Sender{Start: start}, Control: impl.Control{Window: 16, Bound: 64}}}
		w.Net.Bag = []impl.Segment{{Path: 1, Syn: true, Seq: start, Opt: impl.OptKey, A: 5}}
	})
	if !sameWorlds(got, impl.WorldResult{World: want}) {
		t.Errorf("DialWorld = %+v, want %+v", got, want)
	}
	open := openWorld(1)
	plain := turned(open, func(w *impl.World) { w.Sides[0].Plain = true })
	strange := turned(open, func(w *impl.World) { w.Sides[0].Peer = 0 })
	dead := turned(open, func(w *impl.World) { w.Net.Dead[2] = true })
	full := turned(open, func(w *impl.World) { w.Net.Bag = manySegmentsOn(60, 0, 1, 2) })
	for name, row := range map[string]struct {
		w           impl.World
		path, nonce int64
		want, bag   int64
	}{
		"a second path":              {open, 2, 3, impl.OK, 1},
		"the greatest nonce":         {open, 0, 1000000, impl.OK, 1},
		"a path below":               {open, -1, 3, impl.ErrRange, 0},
		"a path above":               {open, 3, 3, impl.ErrRange, 0},
		"a nonce below":              {open, 2, -1, impl.ErrRange, 0},
		"a nonce above":              {open, 2, 1000001, impl.ErrRange, 0},
		"a path that is there":       {open, 1, 3, impl.ErrTaken, 0},
		"while the first is asked":   {got.World, 2, 3, impl.ErrState, 0},
		"the same while it is asked": {got.World, 1, 3, impl.ErrState, 0},
		"plain":                      {plain, 2, 3, impl.ErrState, 0},
		"with no peer":               {strange, 2, 3, impl.ErrState, 0},
		"a dead path":                {dead, 2, 3, impl.OK, 0},
		"a full Bag":                 {full, 2, 3, impl.OK, 60},
		"wrong in both":              {got.World, 3, -1, impl.ErrRange, 0},
	} {
		told := impl.DialWorld(row.w, row.path, row.nonce)
		if told.Code != row.want || int64(len(told.World.Net.Bag)) != row.bag || !sameWorlds(told, dialWorldModel(row.w, row.path, row.nonce)) {
			t.Errorf("DialWorld, %s: %+v", name, told)
		}
	}
}

func TestWriteAndEndWorld(t *testing.T) {
	for side := range int64(2) {
		w := plainWorld()
		got := impl.WriteWorld(w, side, []byte(" you"))
		want := turned(w, func(w *impl.World) { w.Sides[side].Wrote = []byte("hello you") })
		if !sameWorlds(got, impl.WorldResult{World: want}) {
			t.Errorf("WriteWorld at %d = %+v", side, got)
		}
		if got := impl.WriteWorld(w, side, lettersOf(295)); got.Code != impl.OK || len(got.World.Sides[side].Wrote) != 300 {
			t.Errorf("WriteWorld at %d of as many as may be = %+v", side, got)
		}
		if got := impl.WriteWorld(w, side, lettersOf(296)); !sameWorlds(got, impl.WorldResult{Code: impl.ErrMany}) {
			t.Errorf("WriteWorld at %d of one more = %+v", side, got)
		}
		if got := impl.WriteWorld(w, side, nil); !sameWorlds(got, impl.WorldResult{World: w}) {
			t.Errorf("WriteWorld at %d of nothing = %+v", side, got)
		}
		ended := impl.EndWorld(w, side)
		if !sameWorlds(ended, impl.WorldResult{World: turned(w, func(w *impl.World) { w.Sides[side].Fin = true })}) {
			t.Errorf("EndWorld at %d = %+v", side, ended)
		}
		for _, data := range [][]byte{nil, []byte("x"), lettersOf(296), lettersOf(301)} {
			if got := impl.WriteWorld(ended.World, side, data); !sameWorlds(got, impl.WorldResult{Code: impl.ErrState}) {
				t.Errorf("WriteWorld at %d behind an end = %+v", side, got)
			}
			if got := impl.WriteWorld(ended.World, 1-side, data); !sameWorlds(got, writeWorldModel(ended.World, 1-side, data)) || len(data) < 9 && got.Code != impl.OK {
				t.Errorf("WriteWorld where the other side ended = %+v", got)
			}
		}
		if got := impl.EndWorld(ended.World, side); !sameWorlds(got, impl.WorldResult{Code: impl.ErrState}) {
			t.Errorf("EndWorld at %d twice = %+v", side, got)
		}
		if got := impl.EndWorld(ended.World, 1-side); got.Code != impl.OK || !got.World.Sides[0].Fin || !got.World.Sides[1].Fin {
			t.Errorf("EndWorld of both = %+v", got)
		}
	}
}

// readingWorld has "abcdef" Done at both sides, of which so much was Given, and it ends there.
func readingWorld(given int64, finIn int64, ended bool) impl.World {
	w := plainWorld()
	for side := range w.Sides {
		w.Sides[side].In, w.Sides[side].Given, w.Sides[side].FinIn = gatherWith("abcdef"), given, finIn
		w.Got[side], w.Ended[side] = []byte("abcdef"[:given]), ended
	}
	return w
}

func TestReadWorld(t *testing.T) {
	for _, row := range []struct {
		given, finIn int64
		ended        bool
		n            int64
		data         string
		tells        bool
	}{
		{0, -1, false, 0, "", false},
		{0, -1, false, 1, "a", false},
		{0, -1, false, 6, "abcdef", false},
		{0, -1, false, 7, "abcdef", false},
		{0, -1, false, 1000, "abcdef", false},
		{2, -1, false, 3, "cde", false},
		{2, -1, false, 1000, "cdef", false},
		{6, -1, false, 0, "", false},
		{6, -1, false, 9, "", false},
		{0, 6, false, 0, "", false},
		{0, 6, false, 5, "abcde", false},
		{0, 6, false, 6, "abcdef", true},
		{5, 6, false, 1, "f", true},
		{5, 6, false, 0, "", false},
		{5, 6, true, 0, "", true},
		{6, 6, false, 0, "", true},
		{6, 6, false, 1000, "", true},
		{6, 7, false, 1000, "", false},
		{6, 7, true, 1000, "", true},
		{0, -1, true, 2, "ab", true},
	} {
		w := readingWorld(row.given, row.finIn, row.ended)
		for side := range int64(2) {
			got := impl.ReadWorld(w, side, row.n)
			want := turned(w, func(w *impl.World) {
				w.Sides[side].Given += int64(len(row.data))
				w.Got[side] = append(w.Got[side], row.data...)
				w.Ended[side] = row.tells
			})
			if !sameWorlds(got, impl.WorldResult{Data: []byte(row.data), World: want}) {
				t.Errorf("ReadWorld at %d of %+v = %+v", side, row, got)
			}
		}
	}
	for _, n := range []int64{-1, 1001, math.MinInt64, math.MaxInt64} {
		if got := impl.ReadWorld(plainWorld(), 1, n); !sameWorlds(got, impl.WorldResult{Code: impl.ErrRange}) {
			t.Errorf("ReadWorld of %d = %+v", n, got)
		}
	}
}

// An end with nothing ahead of it, and nothing at all: the first tells the End, the other one does not.
func TestReadWorldOfNothing(t *testing.T) {
	fresh := impl.NewWorld(5, 7).World
	for _, n := range []int64{0, 1, 1000} {
		for side := range int64(2) {
			if got := impl.ReadWorld(fresh, side, n); !sameWorlds(got, impl.WorldResult{World: fresh}) {
				t.Errorf("ReadWorld of nothing at %d = %+v", side, got)
			}
			ends := turned(fresh, func(w *impl.World) { w.Sides[side].FinIn = 0 })
			want := turned(ends, func(w *impl.World) { w.Ended[side] = true })
			if got := impl.ReadWorld(ends, side, n); !sameWorlds(got, impl.WorldResult{World: want}) {
				t.Errorf("ReadWorld of an end alone at %d = %+v", side, got)
			}
			later := turned(fresh, func(w *impl.World) { w.Sides[side].In = gatherWith("", piece(1, "b")) })
			if got := impl.ReadWorld(later, side, n); !sameWorlds(got, impl.WorldResult{World: later}) {
				t.Errorf("ReadWorld behind a gap at %d = %+v", side, got)
			}
		}
	}
}

// What one side sends the other one hears: each with Now, and what it answers stands behind the Bag.
func TestDeliverWorld(t *testing.T) {
	w := turned(impl.NewWorld(5, 7).World, func(w *impl.World) { w.Now = 40 })
	w = impl.DialWorld(w, 2, 3).World
	w = turned(w, func(w *impl.World) { w.Now = 42 })
	got := impl.DeliverWorld(w, 0)
	hers := got.World.Sides[1]
	if got.Code != impl.OK || len(hers.Subs) != 1 || hers.Subs[0].Sent != 42 || hers.Subs[0].State != impl.SubAnswered || !sameConn(got.World.Sides[0], w.Sides[0]) {
		t.Fatalf("the side 1 made %+v", got)
	}
	answer := impl.AnswerSegment(hers, 2).Segment
	if !sameList(got.World.Net.Bag, []impl.Segment{answer}) || answer.From != 1 {
		t.Fatalf("the side 1 sent %+v", got.World.Net)
	}
	back := impl.DeliverWorld(got.World, 0)
	mine := back.World.Sides[0]
	if back.Code != impl.OK || mine.Subs[0].State != impl.SubOpen || mine.Peer != 7 || !sameConn(back.World.Sides[1], hers) {
		t.Fatalf("the side 0 made %+v", back)
	}
	for _, at := range []int64{math.MinInt64, -1, 1, 2, math.MaxInt64} {
		if got := impl.DeliverWorld(w, at); !sameWorlds(got, impl.WorldResult{Code: impl.ErrNone}) {
			t.Errorf("DeliverWorld at %d = %+v", at, got)
		}
	}
	if got := impl.DeliverWorld(impl.NewWorld(5, 7).World, 0); !sameWorlds(got, impl.WorldResult{Code: impl.ErrNone}) {
		t.Errorf("DeliverWorld of an empty Bag = %+v", got)
	}
}

// No segment of a net without a fault is told a code by who hears it: that of its own Side has the From of the other one.
func TestDeliverWorldNobodyHearsItself(t *testing.T) {
	var list []impl.Segment
	for _, g := range manySegments() {
		if faultModel(g) == impl.OK && len(list) < 600 {
			list = append(list, g)
		}
	}
	w := plainWorld()
	for i, g := range list {
		for side := range int64(2) {
			g.From = side
			w.Net = netWith(deadMarks(0), g)
			got := impl.DeliverWorld(w, 0)
			if got.Code != impl.OK || !sameConn(got.World.Sides[side], w.Sides[side]) || !sameWorlds(got, deliverModel(w, 0)) {
				t.Fatalf("the segment %d of the side %d: %+v", i, side, got)
			}
		}
	}
}

// The place that it leaves is there for what is sent back: a full Bag takes one answer, and no more.
func TestDeliverWorldOfAFullBag(t *testing.T) {
	stray := impl.Segment{Path: 2, From: 0, Seq: 9, Ack: 4}
	refusal := impl.Segment{Path: 2, From: 1, Rst: true, Seq: 4, Ack: 9}
	w := worldOf(3, impl.NewConn(0, 5).Conn, impl.NewConn(1, 7).Conn, netWith(deadMarks(0), append([]impl.Segment{stray}, manySegmentsOn(59, 0, 1)...)...))
	got := impl.DeliverWorld(w, 0)
	if want := append(slices.Clone(w.Net.Bag[1:]), refusal); got.Code != impl.OK || !sameList(got.World.Net.Bag, want) {
		t.Errorf("DeliverWorld of a full Bag = %+v", got)
	}
	full := turned(openWorld(0), func(w *impl.World) {
		w.Sides[0].Wrote = lettersOf(30)
		w.Net.Bag = manySegmentsOn(59, 1)
	})
	ticked := impl.TickWorld(full)
	first := impl.StepConn(full.Sides[0], 1)
	if len(first.Send) < 2 || len(ticked.World.Net.Bag) != 60 || !sameFields(ticked.World.Net.Bag[59], first.Send[0]) || !sameConn(ticked.World.Sides[0], first.Conn) {
		t.Errorf("TickWorld of a Bag with room for one = %+v", ticked)
	}
}

func TestTickWorld(t *testing.T) {
	w := openWorld(1)
	w = impl.WriteWorld(w, 1, []byte("from 1")).World
	w = impl.WriteWorld(w, 0, []byte("from 0")).World
	stays := impl.Segment{Path: 2, Seq: 5}
	w = turned(w, func(w *impl.World) { w.Net.Bag, w.Now = []impl.Segment{stays}, 6 })
	got := impl.TickWorld(w)
	bag := got.World.Net.Bag
	if got.Code != impl.OK || got.World.Now != 7 || len(bag) != 3 || !sameFields(bag[0], stays) || string(bag[1].Load) != "from 0" || string(bag[2].Load) != "from 1" || bag[1].From != 0 || bag[2].From != 1 {
		t.Fatalf("TickWorld = %+v", got)
	}
	for side, c := range w.Sides {
		stepped := impl.StepConn(c, 7)
		if !sameConn(got.World.Sides[side], stepped.Conn) || stepped.Conn.Subs[0].Send.Flights[0].Sent != 7 {
			t.Errorf("the side %d became %+v", side, got.World.Sides[side])
		}
	}
	if got := impl.TickWorld(turned(w, func(w *impl.World) { w.Now = 100000 })); !sameWorlds(got, impl.WorldResult{Code: impl.ErrRange}) {
		t.Errorf("TickWorld at the last tick = %+v", got)
	}
	if got := impl.TickWorld(turned(w, func(w *impl.World) { w.Now = 99999 })); got.Code != impl.OK || got.World.Now != 100000 {
		t.Errorf("TickWorld ahead of the last tick = %+v", got)
	}
	fresh := impl.NewWorld(5, 7).World
	if got := impl.TickWorld(fresh); !sameWorlds(got, impl.WorldResult{World: turned(fresh, func(w *impl.World) { w.Now = 1 })}) {
		t.Errorf("TickWorld of a new world = %+v", got)
	}
}

// A tick on a dead path sends nothing, and the side has its flight all the same.
func TestTickWorldOnADeadPath(t *testing.T) {
	w := impl.WriteWorld(openWorld(0), 0, []byte("hello")).World
	w = impl.MeddleWorld(w, 5, 0, 0, 0).World
	got := impl.TickWorld(w)
	if got.Code != impl.OK || len(got.World.Net.Bag) != 0 || len(got.World.Sides[0].Subs[0].Send.Flights) != 1 {
		t.Errorf("TickWorld = %+v", got)
	}
}

// The ticks are those of the world: what waits is sent again as many ticks later as it must, and the end is told at each fourth tick.
func TestTickWorldByTheClock(t *testing.T) {
	w := impl.DialWorld(impl.NewWorld(5, 7).World, 0, 3).World
	var bags []int
	for range 9 {
		w = impl.TickWorld(w).World
		bags = append(bags, len(w.Net.Bag))
	}
	if !slices.Equal(bags, []int{1, 1, 1, 2, 2, 2, 2, 3, 3}) {
		t.Errorf("the Bag grew as %v", bags)
	}
	w = impl.EndWorld(openWorld(0), 1).World
	bags = nil
	for range 9 {
		w = impl.TickWorld(w).World
		bags = append(bags, len(w.Net.Bag))
	}
	if !slices.Equal(bags, []int{0, 0, 0, 1, 1, 1, 1, 2, 2}) || w.Net.Bag[0].From != 1 || w.Net.Bag[0].End != 1 {
		t.Errorf("the Bag grew as %v: %+v", bags, w.Net.Bag)
	}
}

func TestMeddleWorld(t *testing.T) {
	w := plainWorld()
	bag := w.Net.Bag
	net := func(dead []bool, list ...impl.Segment) impl.WorldResult {
		return impl.WorldResult{World: turned(w, func(w *impl.World) { w.Net = cloneNet(netWith(dead, list...)) })}
	}
	code := func(code int64) impl.WorldResult { return impl.WorldResult{Code: code} }
	altered := cloneList(bag)
	altered[3].Load[2] ^= 129
	rows := []struct {
		name                  string
		kind, at, place, mask int64
		want                  impl.WorldResult
	}{
		{"lost first", 1, 0, 0, 0, net(w.Net.Dead, bag[1], bag[2], bag[3])},
		{"lost last, with any place and mask", 1, 3, -1, 999, net(w.Net.Dead, bag[0], bag[1], bag[2])},
		{"lost of none", 1, 4, 0, 0, code(impl.ErrNone)},
		{"lost ahead", 1, -1, 0, 0, code(impl.ErrNone)},
		{"copied", 2, 1, -1, 999, net(w.Net.Dead, bag[0], bag[1], bag[2], bag[3], bag[1])},
		{"copied of none", 2, 4, 0, 0, code(impl.ErrNone)},
		{"stripped", 3, 2, -1, 999, net(w.Net.Dead, bag[0], bag[1], impl.StripSegment(bag[2]), bag[3])},
		{"stripped of none", 3, -1, 0, 0, code(impl.ErrNone)},
		{"altered", 4, 3, 2, 129, net(w.Net.Dead, altered...)},
		{"altered of none", 4, 4, 2, 129, code(impl.ErrNone)},
		{"altered of none, and by nothing", 4, -1, 2, 0, code(impl.ErrNone)},
		{"altered behind the Load", 4, 3, 3, 129, code(impl.ErrRange)},
		{"altered ahead of the Load", 4, 3, -1, 129, code(impl.ErrRange)},
		{"altered where there is no Load", 4, 0, 0, 129, code(impl.ErrRange)},
		{"altered by nothing", 4, 3, 2, 0, code(impl.ErrRange)},
		{"altered by too much", 4, 3, 2, 256, code(impl.ErrRange)},
		{"killed", 5, 1, -1, 999, net([]bool{true, true, false}, bag[1], bag[3])},
		{"killed twice", 5, 0, 0, 0, net(w.Net.Dead, bag...)},
		{"killed of none", 5, 3, 0, 0, code(impl.ErrRange)},
		{"killed ahead", 5, -1, 0, 0, code(impl.ErrRange)},
		{"kind 0", 0, 0, 0, 1, code(impl.ErrForm)},
		{"kind 0 of none", 0, 9, 0, 1, code(impl.ErrForm)},
		{"kind 6", 6, 0, 0, 1, code(impl.ErrForm)},
		{"kind -1", -1, 0, 0, 1, code(impl.ErrForm)},
		{"the least kind", math.MinInt64, 0, 0, 1, code(impl.ErrForm)},
		{"the greatest kind", math.MaxInt64, 0, 0, 1, code(impl.ErrForm)},
		{"a kind that is 1 in 32 bits", 1<<32 + 1, 0, 0, 1, code(impl.ErrForm)},
	}
	for _, row := range rows {
		if got := impl.MeddleWorld(w, row.kind, row.at, row.place, row.mask); !sameWorlds(got, row.want) {
			t.Errorf("%s: %+v, want %+v", row.name, got, row.want)
		}
	}
	full := turned(w, func(w *impl.World) { w.Net.Bag = manySegmentsOn(60, 1, 2) })
	if got := impl.MeddleWorld(full, 2, 0, 0, 0); !sameWorlds(got, code(impl.ErrMany)) {
		t.Errorf("copied where there is no room: %+v", got)
	}
	if got := impl.MeddleWorld(full, 2, 60, 0, 0); !sameWorlds(got, code(impl.ErrNone)) {
		t.Errorf("copied of none where there is no room: %+v", got)
	}
}

// checkWorlds holds all functions against their models, at and beside all that this world has.
func checkWorlds(t *testing.T, draw *rand.Rand, w impl.World, count map[string]int) {
	t.Helper()
	check := func(name string, got impl.WorldResult, want impl.WorldResult) {
		t.Helper()
		if !sameWorlds(got, want) {
			t.Fatalf("%s of %+v\n= %+v,\nwant %+v", name, w, got, want)
		}
		count[name]++
		if got.Code != impl.OK {
			count[name+" with a code"]++
		}
	}
	for path := int64(-1); path <= 3; path++ {
		check("DialWorld", impl.DialWorld(w, path, 1000000), dialWorldModel(w, path, 1000000))
	}
	check("DialWorld", impl.DialWorld(w, 1, 1000001), dialWorldModel(w, 1, 1000001))
	for side := int64(-1); side <= 2; side++ {
		for _, size := range []int{0, 3, 300 - len(w.Sides[1&side].Wrote), 301 - len(w.Sides[1&side].Wrote)} {
			check("WriteWorld", impl.WriteWorld(w, side, lettersOf(size)), writeWorldModel(w, side, lettersOf(size)))
		}
		left := int64(len(w.Sides[1&side].In.Done)) - w.Sides[1&side].Given
		for _, n := range []int64{-1, 0, 1, left - 1, left, left + 1, 1000, 1001} {
			check("ReadWorld", impl.ReadWorld(w, side, n), readWorldModel(w, side, n))
		}
		check("EndWorld", impl.EndWorld(w, side), endWorldModel(w, side))
	}
	last := int64(len(w.Net.Bag)) - 1
	for _, at := range []int64{-1, 0, 1, last / 2, last - 1, last, last + 1, draw.Int63n(last + 2)} {
		check("DeliverWorld", impl.DeliverWorld(w, at), deliverModel(w, at))
		for kind := int64(0); kind <= 6; kind++ {
			place, mask := draw.Int63n(10)-1, draw.Int63n(258)-1
			check("MeddleWorld", impl.MeddleWorld(w, kind, at, place, mask), meddleModel(w, kind, at, place, mask))
		}
	}
	check("TickWorld", impl.TickWorld(w), tickModel(w))
}

func TestWorldsAgainstModel(t *testing.T) {
	draw := rand.New(rand.NewSource(391))
	count := map[string]int{}
	for _, w := range rightWorlds(400, 392) {
		checkWorlds(t, draw, w, count)
	}
	for _, name := range strings.Fields("DialWorld WriteWorld ReadWorld EndWorld DeliverWorld MeddleWorld") {
		if told := count[name+" with a code"]; told < 50 || count[name]-told < 50 {
			t.Errorf("%s was asked %d times, %d with a code", name, count[name], told)
		}
	}
	if count["TickWorld with a code"] < 5 || count["TickWorld"] < 200 {
		t.Errorf("TickWorld was asked %d times, %d with a code", count["TickWorld"], count["TickWorld with a code"])
	}
}

// Both examples of the document that a world can tell without being let run: each round all that is there is delivered, then a tick.
func TestWorldExamples(t *testing.T) {
	for _, strips := range []bool{false, true} {
		w := impl.WriteWorld(impl.DialWorld(impl.NewWorld(5, 7).World, 0, 3).World, 0, []byte("hello")).World
		for range 12 {
			for range len(w.Net.Bag) {
				if strips {
					w = impl.MeddleWorld(w, 3, 0, 0, 0).World
				}
				w = impl.DeliverWorld(w, 0).World
			}
			w = impl.TickWorld(w).World
		}
		got := impl.ReadWorld(w, 1, 100)
		if string(got.Data) != "hello" || got.World.Sides[0].Plain != strips || got.World.Sides[1].Plain != strips || got.World.Ended[1] {
			t.Errorf("read was %q, stripped: %v", got.Data, strips)
		}
	}
}
