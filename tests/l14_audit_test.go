package tests

import (
	"bytes"
	"math"
	"slices"
	"strings"
	"testing"

	"loop.example/g00230/impl"
)

// audit is all that the functions of the chapter tell of a world, of both sides.
type audit struct {
	prefix, held, flights, known [2]bool
	safe, done                   bool
	plain                        impl.IntResult
}

func auditOf(w impl.World) (a audit) {
	for side := range 2 {
		a.prefix[side] = impl.PrefixOf(w, int64(side))
		a.held[side] = impl.HeldRight(w, int64(side))
		a.flights[side] = impl.FlightsRight(w, int64(side))
		a.known[side] = impl.KnownRight(w, int64(side))
	}
	a.safe, a.done, a.plain = impl.SafeWorld(w), impl.DoneWorld(w), impl.PlainOf(w)
	return a
}

// parts are the eight that a safe world has.
func (a *audit) parts() []*bool {
	return []*bool{
		&a.prefix[0], &a.prefix[1], &a.held[0], &a.held[1],
		&a.flights[0], &a.flights[1], &a.known[0], &a.known[1],
	}
}

// missed tells how many of the eight are not so, and which one is the last of them.
func (a *audit) missed() (count int, last int) {
	for i, part := range a.parts() {
		if !*part {
			count, last = count+1, i
		}
	}
	return count, last
}

// auditModel asks byte by byte, each sentence by itself.
func auditModel(w impl.World) (a audit) {
	if fault := worldFaultModel(w); fault != impl.OK {
		a.plain.Code = fault
		return a
	}
	a.done = true
	for side, c := range w.Sides {
		other := w.Sides[1-side]
		a.prefix[side] = prefixModel(w, side)
		a.held[side] = fitsModel(c.In, other.Wrote) && (c.FinIn < 0 || other.Fin && len(other.Wrote) == int(c.FinIn))
		a.flights[side] = flightsModel(c)
		a.known[side] = len(other.In.Done) >= int(c.Acked) && !(c.FinDone && other.FinIn < 0)
		a.done = a.done && doneModel(c, other)
		a.plain.Value += map[bool]int64{true: 1}[c.Plain]
	}
	missed, _ := a.missed()
	a.safe = missed == 0
	return a
}

func prefixModel(w impl.World, side int) bool {
	got, other := string(w.Got[side]), w.Sides[1-side]
	if w.Ended[side] {
		return got == string(other.Wrote) && other.Fin
	}
	return strings.Index(string(other.Wrote), got) == 0
}

func flightsModel(c impl.Conn) bool {
	for _, x := range c.Subs {
		for _, f := range x.Send.Flights {
			for i, b := range f.Load {
				if place := int(f.Data) + i; place >= len(c.Wrote) || c.Wrote[place] != b {
					return false
				}
			}
		}
	}
	return true
}

func doneModel(c impl.Conn, other impl.Conn) bool {
	for i, b := range c.Wrote {
		if i >= len(other.In.Done) || other.In.Done[i] != b {
			return false
		}
	}
	return !c.Fin || other.FinIn == int64(len(c.Wrote))
}

func checkAudit(t *testing.T, what string, w impl.World) audit {
	t.Helper()
	got, want := auditOf(w), auditModel(w)
	if got != want {
		t.Fatalf("%s: %+v, want %+v, of %+v", what, got, want, w)
	}
	return got
}

// capitals are as many other letters, so that one side is not taken for the other one.
func capitals(count int) []byte {
	return bytes.ToUpper(lettersOf(count))
}

// calmWorld is safe, and has something of everything at both sides: of 20 letters 9 are Done at the other side, two pieces are behind them, 4 were read, 6 are known to be there, and three flights are on their way over two paths.
func calmWorld(ended bool) impl.World {
	var sides [2]impl.Conn
	for side, wrote := range [][]byte{lettersOf(20), capitals(20)} {
		came := string([][]byte{capitals(20), lettersOf(20)}[side])
		c := sideWith(int64(side), 0, true,
			carrying(2, 16, flight(6, string(wrote[6:14]), 2, 1), flight(14, string(wrote[14:17]), 2, 1)),
			carrying(1, 16, flight(17, string(wrote[17:]), 2, 1)))
		c.Wrote, c.Fin, c.Acked, c.Given = wrote, ended, 6, 4
		c.In = gatherWith(came[:9], piece(11, came[11:13]), piece(15, came[15:18]))
		if ended {
			c.FinIn = 20
		}
		sides[side] = c
	}
	return worldOf(5, sides[0], sides[1], netWith(deadMarks(0), manySegmentsOn(3, 0, 1)...))
}

// filled lets all that the other side wrote be Done at that side, and so much of it be read.
func filled(w *impl.World, side int, given int) {
	c, wrote := &w.Sides[side], w.Sides[1-side].Wrote
	c.In, c.Given = impl.Gather{Done: slices.Clone(wrote)}, int64(given)
	w.Got[side] = slices.Clone(wrote[:given])
}

// relaid lays the flights of a sub one behind the other again, whatever became of their loads.
func relaid(x *impl.Sub) {
	x.Send = senderWith(x.Send.Start, x.Send.Acked, x.Send.Flights...)
}

// auditRow is what becomes of a calm world at a side, and what is not right any more: p, h, f and k at that side, P, H, F and K at the other one.
type auditRow struct {
	name string
	bad  string
	turn func(w *impl.World, side int)
}

func checkAuditRows(t *testing.T, ended bool, rows []auditRow) {
	t.Helper()
	for _, row := range rows {
		for side := range 2 {
			w := turned(calmWorld(ended), func(w *impl.World) { row.turn(w, side) })
			if fault := impl.WorldFault(w); fault != impl.OK {
				t.Fatalf("%s at %d has the fault %d: %+v", row.name, side, fault, w)
			}
			got := checkAudit(t, row.name, w)
			has := func(letter string) bool { return !strings.Contains(row.bad, letter) }
			var want audit
			want.prefix[side], want.held[side], want.flights[side], want.known[side] = has("p"), has("h"), has("f"), has("k")
			want.prefix[1-side], want.held[1-side], want.flights[1-side], want.known[1-side] = has("P"), has("H"), has("F"), has("K")
			want.safe, want.done, want.plain = row.bad == "", got.done, got.plain
			if got != want {
				t.Errorf("%s at %d, ended: %v: %+v, want %+v", row.name, side, ended, got, want)
			}
		}
	}
}

// ofEach names a row for each of so many places.
func ofEach(from int, to int, row func(k int) auditRow) (out []auditRow) {
	for k := from; k < to; k++ {
		out = append(out, row(k))
	}
	return out
}

func TestAuditOfCalmWorlds(t *testing.T) {
	for _, ended := range []bool{false, true} {
		checkAuditRows(t, ended, []auditRow{
			{"nothing turned", "", func(w *impl.World, side int) {}},
			{"another tick", "", func(w *impl.World, side int) { w.Now = 100000 }},
			{"nothing on its way", "", func(w *impl.World, side int) { w.Net.Bag = nil }},
			{"no subs", "", func(w *impl.World, side int) { w.Sides[side].Subs, w.Sides[side].Free = nil, false }},
			{"subs without flights", "", func(w *impl.World, side int) {
				for i := range w.Sides[side].Subs {
					w.Sides[side].Subs[i].Send = impl.Sender{Start: 5, Next: 9, Acked: 9}
				}
			}},
			{"a closed path", "", func(w *impl.World, side int) {
				x := &w.Sides[side].Subs[0]
				*x = impl.CloseSub(*x).Sub
			}},
			{"nothing came in", "K", func(w *impl.World, side int) {
				c := &w.Sides[side]
				c.In, c.Given, w.Got[side] = impl.Gather{}, 0, nil
			}},
			{"nothing came in, nothing known", "", func(w *impl.World, side int) {
				c := &w.Sides[side]
				c.In, c.Given, w.Got[side], w.Sides[1-side].Acked = impl.Gather{}, 0, nil, 0
			}},
		})
	}
}

func TestPrefixOf(t *testing.T) {
	for _, ended := range []bool{false, true} {
		endedRight := map[bool]string{false: "p", true: ""}[ended]
		rows := ofEach(0, 4, func(k int) auditRow {
			return auditRow{"a byte of Got and In", "ph", func(w *impl.World, side int) {
				w.Got[side][k] ^= 1
				w.Sides[side].In.Done[k] ^= 1
			}}
		})
		rows = append(rows, ofEach(0, 10, func(k int) auditRow {
			return auditRow{"as much as is Done was read", "", func(w *impl.World, side int) {
				w.Sides[side].Given = int64(min(k, 9))
				w.Got[side] = slices.Clone(w.Sides[side].In.Done[:min(k, 9)])
			}}
		})...)
		rows = append(rows, ofEach(0, 20, func(k int) auditRow {
			return auditRow{"Ended ahead of all", "p", func(w *impl.World, side int) { filled(w, side, k); w.Ended[side] = true }}
		})...)
		rows = append(rows, []auditRow{
			{"Ended where a part came", "p", func(w *impl.World, side int) { w.Ended[side] = true }},
			{"all of it, and no End", "", func(w *impl.World, side int) { filled(w, side, 20) }},
			{"all of it, and Ended", endedRight, func(w *impl.World, side int) { filled(w, side, 20); w.Ended[side] = true }},
			{"all of it, and Ended, and FinIn is not known", endedRight, func(w *impl.World, side int) {
				filled(w, side, 20)
				w.Ended[side], w.Sides[side].FinIn = true, -1
			}},
			{"Ended where the other side is not Fin", "p", func(w *impl.World, side int) {
				filled(w, side, 20)
				w.Ended[side], w.Sides[side].FinIn, w.Sides[1-side].Fin = true, -1, false
			}},
			{"Ended and FinIn where the other side is not Fin", "ph", func(w *impl.World, side int) {
				filled(w, side, 20)
				w.Ended[side], w.Sides[side].FinIn, w.Sides[1-side].Fin = true, 20, false
			}},
			{"Ended, and one more was written then", "p", func(w *impl.World, side int) {
				filled(w, side, 20)
				w.Ended[side], w.Sides[side].FinIn, w.Sides[1-side].Fin = true, -1, true
				w.Sides[1-side].Wrote = append(w.Sides[1-side].Wrote, 'x')
			}},
			{"one byte more than was written", "ph", func(w *impl.World, side int) {
				filled(w, side, 20)
				c := &w.Sides[side]
				c.In.Done, w.Got[side], c.Given, c.FinIn = append(c.In.Done, 'x'), append(w.Got[side], 'x'), 21, -1
			}},
			{"one byte more than was written, and Ended", "ph", func(w *impl.World, side int) {
				filled(w, side, 20)
				c := &w.Sides[side]
				c.In.Done, w.Got[side], c.Given, c.FinIn = append(c.In.Done, 'x'), append(w.Got[side], 'x'), 21, -1
				w.Ended[side], w.Sides[1-side].Fin = true, true
			}},
			{"what itself wrote", "ph", func(w *impl.World, side int) {
				copy(w.Sides[side].In.Done, w.Sides[side].Wrote[:4])
				w.Got[side] = slices.Clone(w.Sides[side].Wrote[:4])
			}},
			{"from the second byte on", "ph", func(w *impl.World, side int) {
				copy(w.Sides[side].In.Done, w.Sides[1-side].Wrote[1:5])
				w.Got[side] = slices.Clone(w.Sides[1-side].Wrote[1:5])
			}},
		}...)
		checkAuditRows(t, ended, rows)
	}
}

// Nothing was written: nothing that was read is right, and an end that was read where the other side is Fin.
func TestPrefixOfNothing(t *testing.T) {
	for side := range 2 {
		for _, row := range []struct {
			fin, ended bool
			got        string
			want       bool
		}{
			{false, false, "", true}, {true, false, "", true}, {true, true, "", true}, {false, true, "", false},
			{false, false, "x", false}, {true, false, "x", false}, {true, true, "x", false}, {false, true, "\x00", false},
		} {
			w := turned(impl.NewWorld(5, 7).World, func(w *impl.World) {
				w.Sides[1-side].Fin, w.Ended[side] = row.fin, row.ended
				w.Sides[side].In.Done, w.Sides[side].Given, w.Got[side] = []byte(row.got), int64(len(row.got)), []byte(row.got)
			})
			got := checkAudit(t, "nothing written", w)
			if got.prefix[side] != row.want || !got.prefix[1-side] || got.safe != row.want || got.held[side] != (row.got == "") {
				t.Errorf("%+v at %d: %+v", row, side, got)
			}
		}
	}
}

// heldBytes are the rows of what is held at a side: each of it turned, and a byte more or less.
func heldBytes() []auditRow {
	rows := ofEach(4, 9, func(k int) auditRow {
		return auditRow{"a byte of Done", "h", func(w *impl.World, side int) { w.Sides[side].In.Done[k] ^= 128 }}
	})
	for i, size := range []int{2, 3} {
		rows = append(rows, ofEach(0, size, func(k int) auditRow {
			return auditRow{"a byte of a piece", "h", func(w *impl.World, side int) { w.Sides[side].In.Pieces[i].Data[k] ^= 1 }}
		})...)
	}
	return append(rows, []auditRow{
		{"Done of one more", "", func(w *impl.World, side int) {
			w.Sides[side].In.Done = append(w.Sides[side].In.Done, w.Sides[1-side].Wrote[9])
		}},
		{"Done of one more that is otherwise", "h", func(w *impl.World, side int) {
			w.Sides[side].In.Done = append(w.Sides[side].In.Done, w.Sides[1-side].Wrote[10])
		}},
		{"Done of one less", "", func(w *impl.World, side int) { w.Sides[side].In.Done = w.Sides[side].In.Done[:8] }},
		{"a piece of one more", "", func(w *impl.World, side int) {
			p := &w.Sides[side].In.Pieces[0]
			p.Data = append(p.Data, w.Sides[1-side].Wrote[13])
		}},
		{"a piece of one more that is otherwise", "h", func(w *impl.World, side int) {
			p := &w.Sides[side].In.Pieces[0]
			p.Data = append(p.Data, w.Sides[1-side].Wrote[14])
		}},
		{"a piece of one less", "", func(w *impl.World, side int) {
			p := &w.Sides[side].In.Pieces[1]
			p.Data = p.Data[:2]
		}},
		{"a piece without its first byte", "h", func(w *impl.World, side int) {
			p := &w.Sides[side].In.Pieces[1]
			p.Data = p.Data[1:]
		}},
		{"a piece one place on", "h", func(w *impl.World, side int) { w.Sides[side].In.Pieces[1].At++ }},
		{"a piece one place back", "h", func(w *impl.World, side int) { w.Sides[side].In.Pieces[1].At-- }},
		{"no pieces", "", func(w *impl.World, side int) { w.Sides[side].In.Pieces = nil }},
		{"what itself wrote", "h", func(w *impl.World, side int) { copy(w.Sides[side].In.Done[4:], w.Sides[side].Wrote[4:]) }},
	}...)
}

func TestHeldRight(t *testing.T) {
	for _, ended := range []bool{false, true} {
		checkAuditRows(t, ended, heldBytes())
	}
}

// lastPiece is all that came in behind Done: it ends there.
func lastPiece(c *impl.Conn, wrote []byte, end int) {
	data := append(slices.Clone(wrote), "xyz"...)[15:end]
	c.In.Pieces = []impl.Piece{{At: 15, Data: data}}
}

func TestHeldRightAtTheEnd(t *testing.T) {
	setEnd := func(end int64, fin bool) func(w *impl.World, side int) {
		return func(w *impl.World, side int) { w.Sides[side].FinIn, w.Sides[1-side].Fin = end, fin }
	}
	rows := []auditRow{
		{"FinIn that is not known yet", "", setEnd(-1, true)},
		{"FinIn that is not known, and not Fin", "", setEnd(-1, false)},
		{"FinIn", "", setEnd(20, true)},
		{"FinIn where the other side is not Fin", "h", setEnd(20, false)},
		{"FinIn one more", "h", setEnd(21, true)},
		{"FinIn one less", "h", setEnd(19, true)},
		{"FinIn one more, and not Fin", "h", setEnd(21, false)},
		{"FinIn one less, and not Fin", "h", setEnd(19, false)},
		{"FinIn at the last byte that came in", "h", setEnd(18, true)},
		{"the greatest FinIn", "h", setEnd(400, true)},
		{"FinIn where its own side alone is Fin", "h", func(w *impl.World, side int) {
			setEnd(20, false)(w, side)
			w.Sides[side].Fin = true
		}},
		{"FinIn of its own length", "h", func(w *impl.World, side int) {
			setEnd(20, true)(w, side)
			w.Sides[1-side].Wrote = append(w.Sides[1-side].Wrote, 'x')
		}},
		{"FinIn 0", "hK", func(w *impl.World, side int) {
			setEnd(0, true)(w, side)
			c := &w.Sides[side]
			c.In, c.Given, w.Got[side] = impl.Gather{}, 0, nil
		}},
	}
	for end := 16; end <= 22; end++ {
		bad := map[bool]string{true: "h"}[end > 20]
		rows = append(rows, auditRow{"a piece near the end", bad, func(w *impl.World, side int) {
			lastPiece(&w.Sides[side], w.Sides[1-side].Wrote, end)
			w.Sides[side].FinIn = -1
		}})
	}
	rows = append(rows, auditRow{"a piece far behind the end", "h", func(w *impl.World, side int) {
		w.Sides[side].In.Pieces[1], w.Sides[side].FinIn = piece(399, "x"), -1
	}})
	for _, ended := range []bool{false, true} {
		checkAuditRows(t, ended, rows)
	}
}

// flightPlaces are each flight of a calm world, by its sub and its place there.
func flightPlaces() [][2]int {
	return [][2]int{{0, 0}, {0, 1}, {1, 0}}
}

func flightAt(w *impl.World, side int, at [2]int) *impl.Flight {
	return &w.Sides[side].Subs[at[0]].Send.Flights[at[1]]
}

// loadBecomes gives a flight of one side another Load, which moves those behind it.
func loadBecomes(w *impl.World, side int, at [2]int, load []byte) {
	flightAt(w, side, at).Load = slices.Clone(load)
	relaid(&w.Sides[side].Subs[at[0]])
}

func flightRows(at [2]int) (rows []auditRow) {
	size := []int{8, 3, 3}[at[0]+at[1]]
	rows = ofEach(0, size, func(k int) auditRow {
		return auditRow{"a byte of a Load", "f", func(w *impl.World, side int) { flightAt(w, side, at).Load[k] ^= 1 }}
	})
	for _, data := range []int64{-1, 1, -2, 2} {
		rows = append(rows, auditRow{"Data beside it", "f", func(w *impl.World, side int) { flightAt(w, side, at).Data += data }})
	}
	for data := int64(21 - size); data <= 22; data++ {
		rows = append(rows, auditRow{"Data with a Load that goes behind the end of Wrote", "f", func(w *impl.World, side int) {
			f := flightAt(w, side, at)
			f.Data = data
			copy(f.Load, w.Sides[side].Wrote[min(data, 20):])
		}})
	}
	for _, data := range []int64{0, 20, 21, 299, 300, 301, 400 - int64(size)} {
		rows = append(rows, auditRow{"Data far from it", "f", func(w *impl.World, side int) { flightAt(w, side, at).Data = data }})
	}
	for from := range int64(20 - size + 1) {
		rows = append(rows, auditRow{"another part of Wrote", "", func(w *impl.World, side int) {
			flightAt(w, side, at).Data = from
			copy(flightAt(w, side, at).Load, w.Sides[side].Wrote[from:])
		}})
	}
	return append(rows, []auditRow{
		{"a Load of one less", "", func(w *impl.World, side int) {
			loadBecomes(w, side, at, flightAt(w, side, at).Load[:size-1])
		}},
		{"a Load without its first byte", "f", func(w *impl.World, side int) {
			loadBecomes(w, side, at, flightAt(w, side, at).Load[1:])
		}},
		{"a Load of one byte", "", func(w *impl.World, side int) {
			loadBecomes(w, side, at, flightAt(w, side, at).Load[:1])
		}},
		{"what the other side wrote", "f", func(w *impl.World, side int) {
			f := flightAt(w, side, at)
			copy(f.Load, w.Sides[1-side].Wrote[f.Data:])
		}},
		{"more Tries, and Sent later", "", func(w *impl.World, side int) {
			flightAt(w, side, at).Tries, flightAt(w, side, at).Sent = 1000, 1000000
		}},
	}...)
}

func TestFlightsRight(t *testing.T) {
	for _, ended := range []bool{false, true} {
		for _, at := range flightPlaces() {
			checkAuditRows(t, ended, flightRows(at))
		}
		checkAuditRows(t, ended, []auditRow{
			{"a Load of one more", "", func(w *impl.World, side int) { loadBecomes(w, side, [2]int{0, 1}, w.Sides[side].Wrote[14:18]) }},
			{"a Load of one more that is otherwise", "f", func(w *impl.World, side int) {
				loadBecomes(w, side, [2]int{0, 1}, append(slices.Clone(w.Sides[side].Wrote[14:17]), 'x'))
			}},
			{"a Load of one more than was written", "f", func(w *impl.World, side int) {
				loadBecomes(w, side, [2]int{1, 0}, append(slices.Clone(w.Sides[side].Wrote[17:]), 'x'))
			}},
			{"the same twice", "", func(w *impl.World, side int) {
				x := &w.Sides[side].Subs[1]
				x.Send.Flights = append(x.Send.Flights, cloneSub(*x).Send.Flights...)
				relaid(x)
			}},
			{"a path that is the third", "f", func(w *impl.World, side int) {
				x := carrying(0, 16, flight(0, "?", 1, 1))
				x.Join = true
				w.Sides[side].Subs = append(w.Sides[side].Subs, x)
			}},
			{"Wrote of one less where a flight has that byte", "f", func(w *impl.World, side int) {
				w.Sides[side].Wrote, w.Sides[side].Fin, w.Sides[1-side].FinIn = w.Sides[side].Wrote[:19], false, -1
			}},
			{"Wrote of one more", "", func(w *impl.World, side int) {
				w.Sides[side].Wrote, w.Sides[side].Fin, w.Sides[1-side].FinIn = append(w.Sides[side].Wrote, 'x'), false, -1
			}},
		})
	}
}

// A byte of Wrote is held against all that has it: what was read, what is held, and what is on its way.
func TestAuditOfEachByteThatWasWritten(t *testing.T) {
	for _, ended := range []bool{false, true} {
		var rows []auditRow
		for k := range 20 {
			bad := ""
			if k < 4 {
				bad += "P"
			}
			if k < 9 || k == 11 || k == 12 || k >= 15 && k < 18 {
				bad += "H"
			}
			if k >= 6 {
				bad += "f"
			}
			rows = append(rows, auditRow{"a byte of Wrote", bad, func(w *impl.World, side int) { w.Sides[side].Wrote[k] ^= 1 }})
		}
		checkAuditRows(t, ended, rows)
	}
}

func TestKnownRight(t *testing.T) {
	allKnown := func(finDone bool, finIn int64) func(w *impl.World, side int) {
		return func(w *impl.World, side int) {
			filled(w, 1-side, 0)
			c := &w.Sides[side]
			c.Acked, c.Fin, c.FinDone, w.Sides[1-side].FinIn = 20, true, finDone, finIn
		}
	}
	rows := []auditRow{
		{"all is known", "", allKnown(false, 20)},
		{"all is known, and the end", "", allKnown(true, 20)},
		{"all is known, and the end is not known there", "", allKnown(false, -1)},
		{"FinDone where the end is not known there", "k", allKnown(true, -1)},
		{"FinDone where another end is known there", "H", allKnown(true, 21)},
		{"FinDone where less is Done there", "k", func(w *impl.World, side int) {
			allKnown(true, 20)(w, side)
			w.Sides[1-side].In.Done = w.Sides[1-side].In.Done[:19]
		}},
		{"FinDone where its own FinIn alone is known", "k", func(w *impl.World, side int) {
			allKnown(true, -1)(w, side)
			w.Sides[side].FinIn, w.Sides[1-side].Fin = 20, true
		}},
		{"what is Done there is otherwise", "H", func(w *impl.World, side int) { w.Sides[1-side].In.Done[4] = '?' }},
		{"all is in its own In alone", "k", func(w *impl.World, side int) { filled(w, side, 4); w.Sides[side].Acked = 10 }},
	}
	for acked := range int64(21) {
		bad := map[bool]string{true: "k"}[acked > 9]
		rows = append(rows, auditRow{"so much is known", bad, func(w *impl.World, side int) { w.Sides[side].Acked = acked }})
	}
	rows = append(rows, ofEach(4, 10, func(done int) auditRow {
		bad := map[bool]string{true: "K"}[done < 6]
		return auditRow{"so much is Done", bad, func(w *impl.World, side int) {
			w.Sides[side].In.Done = w.Sides[side].In.Done[:min(done, 9)]
		}}
	})...)
	for _, ended := range []bool{false, true} {
		checkAuditRows(t, ended, rows)
	}
}

// doneRow is what one side wrote, and what the other one has of it.
type doneRow struct {
	name  string
	wrote string
	fin   bool
	in    impl.Gather
	finIn int64
	want  bool
}

func doneRows() []doneRow {
	return []doneRow{
		{"nothing at all", "", false, gatherWith(""), -1, true},
		{"nothing, and the end is known", "", true, gatherWith(""), 0, true},
		{"nothing, and the end is not told yet", "", true, gatherWith(""), -1, false},
		{"nothing, and the end is told further on", "", true, gatherWith(""), 1, false},
		{"nothing, and an end where none is", "", false, gatherWith(""), 0, true},
		{"all", "hello", false, gatherWith("hello"), -1, true},
		{"all, and the end is known", "hello", true, gatherWith("hello"), 5, true},
		{"all, and the end is not told yet", "hello", true, gatherWith("hello"), -1, false},
		{"all, and the end is told further on", "hello", true, gatherWith("hello"), 6, false},
		{"all, and an end where none is", "hello", false, gatherWith("hello"), 5, true},
		{"the last byte is missing", "hello", false, gatherWith("hell"), -1, false},
		{"the last byte is missing, and the end is known", "hello", true, gatherWith("hell"), 5, false},
		{"the last byte is missing, and the end is told there", "hello", true, gatherWith("hell"), 4, false},
		{"the first byte is missing", "hello", true, gatherWith("", piece(1, "ello")), 5, false},
		{"one between is missing", "hello", true, gatherWith("he", piece(3, "lo")), 5, false},
		{"nothing came in", "hello", false, gatherWith(""), -1, false},
		{"one byte that is missing", "h", false, gatherWith(""), -1, false},
		{"one byte is otherwise", "hello", false, gatherWith("hellO"), -1, false},
		{"one byte is otherwise, and the end is known", "hello", true, gatherWith("Hello"), 5, false},
		{"all, and a byte more", "hello", false, gatherWith("hello!"), -1, true},
		{"all, and a byte more, and the end is told behind it", "hello", true, gatherWith("hello!"), 6, false},
		{"all, and a piece behind it", "hello", false, gatherWith("hello", piece(7, "x")), -1, true},
		{"as much as may be written", string(lettersOf(300)), true, gatherWith(string(lettersOf(300))), 300, true},
		{"as much as may be written, but one byte", string(lettersOf(300)), true, gatherWith(string(lettersOf(299))), 300, false},
	}
}

// put lays what the row has over a world, for what that side wrote.
func (row doneRow) put(w *impl.World, side int) {
	w.Sides[side].Wrote, w.Sides[side].Fin = []byte(row.wrote), row.fin
	w.Sides[1-side].In, w.Sides[1-side].FinIn = cloneGather(row.in), row.finIn
}

func TestDoneWorld(t *testing.T) {
	for _, mine := range doneRows() {
		for _, hers := range doneRows() {
			w := turned(impl.NewWorld(5, 7).World, func(w *impl.World) { mine.put(w, 0); hers.put(w, 1) })
			if fault := impl.WorldFault(w); fault != impl.OK {
				t.Fatalf("%s and %s: the fault %d", mine.name, hers.name, fault)
			}
			checkAudit(t, mine.name+" and "+hers.name, w)
			if got := impl.DoneWorld(w); got != (mine.want && hers.want) {
				t.Errorf("DoneWorld where %s and %s = %v", mine.name, hers.name, got)
			}
		}
	}
}

// What was read, what is known to be there, and what is on its way still, are not asked.
func TestDoneWorldAsksNothingElse(t *testing.T) {
	for _, ended := range []bool{false, true} {
		for _, given := range []int{0, 7, 20} {
			for _, acked := range []int64{0, 6, 20} {
				w := turned(calmWorld(ended), func(w *impl.World) {
					for side := range 2 {
						filled(w, side, given)
						w.Sides[side].Acked = acked
					}
				})
				if got := checkAudit(t, "all is there", w); !got.done || !got.safe {
					t.Errorf("all is there: %+v", got)
				}
				for side := range 2 {
					less := turned(w, func(w *impl.World) {
						c := &w.Sides[side]
						c.In.Done, c.Given = c.In.Done[:19], min(c.Given, 19)
						w.Got[side] = w.Got[side][:c.Given]
					})
					if got := checkAudit(t, "one is missing", less); got.done {
						t.Errorf("one is missing at %d: %+v", side, got)
					}
				}
			}
		}
		if got := checkAudit(t, "calm", calmWorld(ended)); got.done || !got.safe {
			t.Errorf("a part is there: %+v", got)
		}
	}
}

func TestPlainOf(t *testing.T) {
	bases := []impl.World{impl.NewWorld(5, 7).World, openWorld(1), readingWorld(2, -1, false)}
	for _, base := range bases {
		for bits, want := range []int64{0, 1, 1, 2} {
			w := turned(base, func(w *impl.World) {
				w.Sides[0].Plain, w.Sides[1].Plain = bits&1 != 0, bits&2 != 0
			})
			if got := impl.PlainOf(w); got != (impl.IntResult{Value: want}) {
				t.Errorf("PlainOf %b = %+v", bits, got)
			}
			w.Now = -1
			if got := impl.PlainOf(w); got != (impl.IntResult{Code: impl.ErrRange}) {
				t.Errorf("PlainOf %b with a fault = %+v", bits, got)
			}
		}
	}
}

// A world whose options vanish goes on plainly at both sides, and one that has them at none.
func TestPlainOfALivedWorld(t *testing.T) {
	for _, strips := range []bool{false, true} {
		w := impl.WriteWorld(impl.DialWorld(impl.NewWorld(5, 7).World, 0, 3).World, 0, []byte("hello")).World
		seen := []int64{impl.PlainOf(w).Value}
		for range 6 {
			for range len(w.Net.Bag) {
				if strips {
					w = impl.MeddleWorld(w, 3, 0, 0, 0).World
				}
				w = impl.DeliverWorld(w, 0).World
				seen = append(seen, impl.PlainOf(w).Value)
			}
			w = impl.TickWorld(w).World
		}
		most := map[bool]int64{true: 2}[strips]
		if !slices.IsSorted(seen) || seen[len(seen)-1] != most || strips && !slices.Contains(seen, 1) {
			t.Errorf("stripped: %v, plain were %v", strips, seen)
		}
		if !impl.SafeWorld(w) || !impl.DoneWorld(w) {
			t.Errorf("stripped: %v, %+v", strips, w)
		}
	}
}

func strangeSides() []int64 {
	return []int64{math.MinInt64, math.MinInt64 + 1, -1 << 32, -2, -1, 2, 3, 1 << 32, 1<<32 + 1, math.MaxInt64 - 1, math.MaxInt64}
}

// tellsOfSide are the four that a side is told to.
func tellsOfSide(w impl.World, side int64) [4]bool {
	return [4]bool{impl.PrefixOf(w, side), impl.HeldRight(w, side), impl.FlightsRight(w, side), impl.KnownRight(w, side)}
}

// At a side that is none all are false, in worlds where all is right, too.
func TestAuditSides(t *testing.T) {
	for _, w := range []impl.World{impl.NewWorld(5, 7).World, openWorld(0), calmWorld(false), calmWorld(true)} {
		for _, side := range strangeSides() {
			if got := tellsOfSide(w, side); got != [4]bool{} {
				t.Errorf("the side %d: %v", side, got)
			}
		}
		for side := range int64(2) {
			if got := tellsOfSide(w, side); got != [4]bool{true, true, true, true} {
				t.Errorf("the side %d: %v of %+v", side, got, w)
			}
		}
	}
}

// With each fault of a world all bools are false, and PlainOf tells it alone.
func TestAuditFaultIsAskedFirst(t *testing.T) {
	for _, row := range worldRows() {
		if row.want == impl.OK {
			checkAudit(t, row.name, row.w)
			continue
		}
		if got := auditOf(row.w); got != (audit{plain: impl.IntResult{Code: row.want}}) {
			t.Errorf("%s: %+v", row.name, got)
		}
		for _, side := range strangeSides() {
			if got := tellsOfSide(row.w, side); got != [4]bool{} {
				t.Errorf("%s, the side %d: %v", row.name, side, got)
			}
		}
	}
}

// A fault at one side alone is asked of both, and so is one of the net, which nothing else asks for.
func TestAuditFaultOfACalmWorld(t *testing.T) {
	for _, ended := range []bool{false, true} {
		for side := range 2 {
			for name, turn := range map[string]func(w *impl.World){
				"a key":                 func(w *impl.World) { w.Sides[side].Key = 0 },
				"Acked below":           func(w *impl.World) { w.Sides[side].Acked = -1 },
				"Acked above":           func(w *impl.World) { w.Sides[side].Acked = 21 },
				"FinDone ahead of all":  func(w *impl.World) { w.Sides[side].Fin, w.Sides[side].FinDone = true, true },
				"a flight's Data":       func(w *impl.World) { w.Sides[side].Subs[0].Send.Flights[0].Data = -1 },
				"a flight's Load":       func(w *impl.World) { w.Sides[side].Subs[0].Send.Flights[1].Load = nil },
				"a piece that touches":  func(w *impl.World) { w.Sides[side].In.Pieces[0].At = 9 },
				"a piece without bytes": func(w *impl.World) { w.Sides[side].In.Pieces[1].Data = nil },
				"FinIn below":           func(w *impl.World) { w.Sides[side].FinIn = -2 },
				"FinIn within a piece":  func(w *impl.World) { w.Sides[side].FinIn = 16 },
				"Given":                 func(w *impl.World) { w.Sides[side].Given = 5 },
				"Got of one more":       func(w *impl.World) { w.Got[side] = append(w.Got[side], w.Sides[1-side].Wrote[4]) },
				"a byte of Got alone":   func(w *impl.World) { w.Got[side][0] ^= 1 },
				"Now":                   func(w *impl.World) { w.Now = 100001 },
				"the net":               func(w *impl.World) { w.Net.Dead = nil },
				"a dead path's segment": func(w *impl.World) { w.Net.Dead[0] = true },
				"one Ended":             func(w *impl.World) { w.Ended = w.Ended[:1] },
			} {
				w := turned(calmWorld(ended), turn)
				got := checkAudit(t, name, w)
				if got != (audit{plain: got.plain}) || got.plain.Code == impl.OK || got.plain.Value != 0 {
					t.Errorf("%s: %+v", name, got)
				}
			}
		}
	}
}
