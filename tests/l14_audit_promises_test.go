package tests

import (
	"math/rand"
	"slices"
	"testing"

	"loop.example/g00230/impl"
)

// auditTurn turns one thing of a world without a fault at a side, and leaves it without one; it is false where there is nothing to turn. Where bad is told, this one of p, h, f and k is not right at that side then, if the world was safe.
type auditTurn struct {
	name string
	bad  string
	turn func(draw *rand.Rand, w *impl.World, side int) bool
}

func auditTurns() []auditTurn {
	return slices.Concat(turnsOfGot(), turnsOfDone(), turnsOfPieces(), turnsOfWrote(), turnsOfLoads(), turnsOfKnown(), turnsOfEnds())
}

// reachEnd is where the last byte that came in ends.
func reachEnd(g impl.Gather) int64 {
	if last := len(g.Pieces) - 1; last >= 0 {
		return g.Pieces[last].At + int64(len(g.Pieces[last].Data))
	}
	return int64(len(g.Done))
}

// mayGrow is where a byte may stand behind Done: it touches no piece, and no end.
func mayGrow(c impl.Conn) bool {
	next := int64(len(c.In.Done)) + 1
	return (len(c.In.Pieces) == 0 || c.In.Pieces[0].At > next) && (c.FinIn < 0 || next <= c.FinIn) && next <= 400
}

// byteLike is the byte that was written at that place, or another one.
func byteLike(draw *rand.Rand, wrote []byte, place int64) byte {
	if place < int64(len(wrote)) && draw.Intn(2) == 0 {
		return wrote[place]
	}
	return byte(draw.Intn(256))
}

func turnsOfGot() []auditTurn {
	return []auditTurn{
		{"a byte of Got and of In together", "p", func(draw *rand.Rand, w *impl.World, side int) bool {
			if len(w.Got[side]) == 0 {
				return false
			}
			k, mask := draw.Intn(len(w.Got[side])), byte(1+draw.Intn(255))
			w.Got[side][k] ^= mask
			w.Sides[side].In.Done[k] ^= mask
			return true
		}},
		{"a byte more of Got, of what is Done", "", func(draw *rand.Rand, w *impl.World, side int) bool {
			c := &w.Sides[side]
			if c.Given == int64(len(c.In.Done)) {
				return false
			}
			c.Given++
			w.Got[side] = slices.Clone(c.In.Done[:c.Given])
			return true
		}},
		{"a byte more of Got and of In", "", func(draw *rand.Rand, w *impl.World, side int) bool {
			c := &w.Sides[side]
			if !mayGrow(*c) {
				return false
			}
			c.In.Done = append(c.In.Done, byteLike(draw, w.Sides[1-side].Wrote, int64(len(c.In.Done))))
			c.Given = int64(len(c.In.Done))
			w.Got[side] = slices.Clone(c.In.Done)
			return true
		}},
		{"a byte less of Got", "", func(draw *rand.Rand, w *impl.World, side int) bool {
			c := &w.Sides[side]
			if c.Given == 0 {
				return false
			}
			c.Given--
			w.Got[side] = w.Got[side][:c.Given]
			return true
		}},
	}
}

func turnsOfDone() []auditTurn {
	return []auditTurn{
		{"a byte of Done", "h", func(draw *rand.Rand, w *impl.World, side int) bool {
			c := &w.Sides[side]
			unread := c.In.Done[c.Given:]
			if len(unread) == 0 {
				return false
			}
			unread[draw.Intn(len(unread))] ^= byte(1 + draw.Intn(255))
			return true
		}},
		{"a byte more of Done", "", func(draw *rand.Rand, w *impl.World, side int) bool {
			c := &w.Sides[side]
			if !mayGrow(*c) {
				return false
			}
			c.In.Done = append(c.In.Done, byteLike(draw, w.Sides[1-side].Wrote, int64(len(c.In.Done))))
			return true
		}},
		{"a byte less of Done", "", func(draw *rand.Rand, w *impl.World, side int) bool {
			c := &w.Sides[side]
			if c.Given == int64(len(c.In.Done)) {
				return false
			}
			c.In.Done = c.In.Done[:len(c.In.Done)-1]
			return true
		}},
	}
}

func turnsOfPieces() []auditTurn {
	last := func(c *impl.Conn) *impl.Piece {
		if len(c.In.Pieces) == 0 {
			return nil
		}
		return &c.In.Pieces[len(c.In.Pieces)-1]
	}
	return []auditTurn{
		{"a byte of a piece", "h", func(draw *rand.Rand, w *impl.World, side int) bool {
			pieces := w.Sides[side].In.Pieces
			if len(pieces) == 0 {
				return false
			}
			data := pieces[draw.Intn(len(pieces))].Data
			data[draw.Intn(len(data))] ^= byte(1 + draw.Intn(255))
			return true
		}},
		{"a byte more of a piece", "", func(draw *rand.Rand, w *impl.World, side int) bool {
			c := &w.Sides[side]
			p, end := last(c), reachEnd(c.In)
			if p == nil || end == 400 || end == c.FinIn {
				return false
			}
			p.Data = append(p.Data, byteLike(draw, w.Sides[1-side].Wrote, end))
			return true
		}},
		{"a byte less of a piece", "", func(draw *rand.Rand, w *impl.World, side int) bool {
			p := last(&w.Sides[side])
			if p == nil || len(p.Data) == 1 {
				return false
			}
			p.Data = p.Data[:len(p.Data)-1]
			return true
		}},
		{"a piece that stands further on", "", func(draw *rand.Rand, w *impl.World, side int) bool {
			c := &w.Sides[side]
			p, end := last(c), reachEnd(c.In)
			if p == nil || end == 400 || end == c.FinIn {
				return false
			}
			p.At++
			return true
		}},
	}
}

func turnsOfWrote() []auditTurn {
	return []auditTurn{
		{"a byte of Wrote", "", func(draw *rand.Rand, w *impl.World, side int) bool {
			wrote := w.Sides[side].Wrote
			if len(wrote) == 0 {
				return false
			}
			wrote[draw.Intn(len(wrote))] ^= byte(1 + draw.Intn(255))
			return true
		}},
		{"a byte more of Wrote", "", func(draw *rand.Rand, w *impl.World, side int) bool {
			c := &w.Sides[side]
			if len(c.Wrote) == 300 || c.FinDone {
				return false
			}
			c.Wrote = append(c.Wrote, byte(draw.Intn(256)))
			return true
		}},
		{"a byte less of Wrote", "", func(draw *rand.Rand, w *impl.World, side int) bool {
			c := &w.Sides[side]
			if int64(len(c.Wrote)) == c.Acked {
				return false
			}
			c.Wrote = c.Wrote[:len(c.Wrote)-1]
			return true
		}},
	}
}

// drawnFlight is one that is on its way at that side, with the sub that it is of; nil, if there is none.
func drawnFlight(draw *rand.Rand, w *impl.World, side int) (*impl.Sub, *impl.Flight) {
	var subs []*impl.Sub
	var flights []*impl.Flight
	for i := range w.Sides[side].Subs {
		x := &w.Sides[side].Subs[i]
		for k := range x.Send.Flights {
			subs, flights = append(subs, x), append(flights, &x.Send.Flights[k])
		}
	}
	if len(flights) == 0 {
		return nil, nil
	}
	k := draw.Intn(len(flights))
	return subs[k], flights[k]
}

func turnsOfLoads() []auditTurn {
	onFlight := func(name string, bad string, turn func(draw *rand.Rand, c impl.Conn, f *impl.Flight) bool) auditTurn {
		return auditTurn{name, bad, func(draw *rand.Rand, w *impl.World, side int) bool {
			x, f := drawnFlight(draw, w, side)
			if f == nil || !turn(draw, w.Sides[side], f) {
				return false
			}
			relaid(x)
			return true
		}}
	}
	return []auditTurn{
		onFlight("a byte of a Load", "f", func(draw *rand.Rand, c impl.Conn, f *impl.Flight) bool {
			f.Load[draw.Intn(len(f.Load))] ^= byte(1 + draw.Intn(255))
			return true
		}),
		onFlight("a byte more of a Load", "", func(draw *rand.Rand, c impl.Conn, f *impl.Flight) bool {
			end := f.Data + int64(len(f.Load))
			if len(f.Load) == 8 || end == 400 {
				return false
			}
			f.Load = append(f.Load, byteLike(draw, c.Wrote, end))
			return true
		}),
		onFlight("a byte less of a Load", "", func(draw *rand.Rand, c impl.Conn, f *impl.Flight) bool {
			if len(f.Load) == 1 {
				return false
			}
			f.Load = f.Load[:len(f.Load)-1]
			return true
		}),
		onFlight("Data one more", "", func(draw *rand.Rand, c impl.Conn, f *impl.Flight) bool {
			f.Data++
			return f.Data+int64(len(f.Load)) <= 400
		}),
		onFlight("Data one less", "", func(draw *rand.Rand, c impl.Conn, f *impl.Flight) bool {
			f.Data--
			return f.Data >= 0
		}),
		onFlight("Data behind the end of Wrote", "f", func(draw *rand.Rand, c impl.Conn, f *impl.Flight) bool {
			f.Data = int64(len(c.Wrote)) + draw.Int63n(3)
			return true
		}),
		onFlight("a Load that goes one byte behind the end of Wrote", "f", func(draw *rand.Rand, c impl.Conn, f *impl.Flight) bool {
			f.Data = int64(len(c.Wrote)) - int64(len(f.Load)) + 1
			copy(f.Load, c.Wrote[max(0, f.Data):])
			return f.Data >= 0
		}),
	}
}

func turnsOfKnown() []auditTurn {
	return []auditTurn{
		{"Acked one more than is Done", "k", func(draw *rand.Rand, w *impl.World, side int) bool {
			c := &w.Sides[side]
			c.Acked = int64(len(w.Sides[1-side].In.Done)) + 1
			return !c.FinDone && c.Acked <= int64(len(c.Wrote))
		}},
		{"Acked as much as is Done", "", func(draw *rand.Rand, w *impl.World, side int) bool {
			c := &w.Sides[side]
			c.Acked = int64(len(w.Sides[1-side].In.Done))
			return !c.FinDone && c.Acked <= int64(len(c.Wrote))
		}},
		{"FinDone where the end is not known there", "k", func(draw *rand.Rand, w *impl.World, side int) bool {
			c := &w.Sides[side]
			c.Fin, c.FinDone, c.Acked = true, true, int64(len(c.Wrote))
			w.Sides[1-side].FinIn = -1
			return true
		}},
		{"FinDone where all came there, and the end is not known there", "k", func(draw *rand.Rand, w *impl.World, side int) bool {
			c := &w.Sides[side]
			filled(w, 1-side, len(c.Wrote))
			c.Fin, c.FinDone, c.Acked = true, true, int64(len(c.Wrote))
			w.Sides[1-side].FinIn = -1
			return true
		}},
		{"FinDone where all came there, and the end", "", func(draw *rand.Rand, w *impl.World, side int) bool {
			c := &w.Sides[side]
			filled(w, 1-side, len(c.Wrote))
			c.Fin, c.FinDone, c.Acked = true, true, int64(len(c.Wrote))
			w.Sides[1-side].FinIn = c.Acked
			return true
		}},
	}
}

// unended takes the end of a side back.
func unended(c *impl.Conn) {
	c.Fin, c.FinDone = false, false
}

func turnsOfEnds() []auditTurn {
	beside := func(by int64) func(draw *rand.Rand, w *impl.World, side int) bool {
		return func(draw *rand.Rand, w *impl.World, side int) bool {
			c, other := &w.Sides[side], &w.Sides[1-side]
			other.Fin, c.FinIn = true, int64(len(other.Wrote))+by
			return c.FinIn >= reachEnd(c.In)
		}
	}
	return []auditTurn{
		{"FinIn where the other side is Fin", "", beside(0)},
		{"FinIn one more", "h", beside(1)},
		{"FinIn one less", "h", beside(-1)},
		{"FinIn where the other side is not Fin", "h", func(draw *rand.Rand, w *impl.World, side int) bool {
			done := beside(0)(draw, w, side)
			unended(&w.Sides[1-side])
			return done
		}},
		{"Ended ahead of all that was written", "p", func(draw *rand.Rand, w *impl.World, side int) bool {
			w.Sides[1-side].Fin, w.Ended[side] = true, true
			return len(w.Got[side]) < len(w.Sides[1-side].Wrote)
		}},
		{"Ended where one byte is not read", "p", func(draw *rand.Rand, w *impl.World, side int) bool {
			size := len(w.Sides[1-side].Wrote)
			if size == 0 {
				return false
			}
			filled(w, side, size-1)
			w.Sides[1-side].Fin, w.Ended[side], w.Sides[side].FinIn = true, true, -1
			return true
		}},
		{"Ended where the other side is not Fin", "p", func(draw *rand.Rand, w *impl.World, side int) bool {
			filled(w, side, len(w.Sides[1-side].Wrote))
			unended(&w.Sides[1-side])
			w.Ended[side], w.Sides[side].FinIn = true, -1
			return true
		}},
		{"Ended where all was read", "", func(draw *rand.Rand, w *impl.World, side int) bool {
			filled(w, side, len(w.Sides[1-side].Wrote))
			w.Sides[1-side].Fin, w.Ended[side], w.Sides[side].FinIn = true, true, int64(len(w.Got[side]))
			return true
		}},
	}
}

// isBad tells whether that one of the eight is not right.
func (a audit) isBad(letter string, side int) bool {
	of := map[string]*[2]bool{"p": &a.prefix, "h": &a.held, "f": &a.flights, "k": &a.known}
	return !of[letter][side]
}

// checkSafe holds that a world is safe just where all four are so of both sides.
func checkSafe(t *testing.T, what string, w impl.World, count map[string]int) audit {
	t.Helper()
	if fault := impl.WorldFault(w); fault != impl.OK {
		t.Fatalf("%s: the fault %d of %+v", what, fault, w)
	}
	got := checkAudit(t, what, w)
	missed, last := got.missed()
	if got.safe != (missed == 0) {
		t.Fatalf("%s: %+v of %+v", what, got, w)
	}
	switch missed {
	case 0:
		count["safe"]++
	case 1:
		count["all but "+[]string{"p0", "p1", "h0", "h1", "f0", "f1", "k0", "k1"}[last]]++
	}
	return got
}

// checkTurns turns one thing after the other of a world, each at both sides, and not one behind the other.
func checkTurns(t *testing.T, draw *rand.Rand, w impl.World, count map[string]int) {
	t.Helper()
	was := checkSafe(t, "nothing turned", w, count)
	for _, one := range auditTurns() {
		for side := range 2 {
			v := cloneWorld(w)
			if !one.turn(draw, &v, side) {
				continue
			}
			got := checkSafe(t, one.name, v, count)
			if was.safe && one.bad != "" && (got.safe || !got.isBad(one.bad, side)) {
				t.Fatalf("%s at %d: %+v of %+v", one.name, side, got, v)
			}
			switch {
			case was.safe && got.safe:
				count[one.name+", and it stays safe"]++
			case was.safe:
				count[one.name+", and it is not safe"]++
			}
		}
	}
}

// checkCounts holds that each turn came often enough, of worlds that were safe, and that each of the eight alone was missing.
func checkCounts(t *testing.T, count map[string]int) {
	t.Helper()
	for _, part := range []string{"p0", "p1", "h0", "h1", "f0", "f1", "k0", "k1"} {
		if count["all but "+part] < 30 {
			t.Errorf("%s alone was missing only %d times", part, count["all but "+part])
		}
	}
	if count["safe"] < 500 {
		t.Errorf("only %d worlds were safe", count["safe"])
	}
	for _, one := range auditTurns() {
		stays, turns := count[one.name+", and it stays safe"], count[one.name+", and it is not safe"]
		if stays+turns < 40 || one.bad != "" && stays > 0 {
			t.Errorf("%s: %d worlds stayed safe, %d did not", one.name, stays, turns)
		}
	}
}

// A world is safe just where both sides have what is right: those that came of a new one by long rows of calls, and the same with one thing turned.
func TestPromise15LivedAndTurned(t *testing.T) {
	draw := rand.New(rand.NewSource(1501))
	count := map[string]int{}
	k := 0
	livedWorlds(60, 1502, func(w impl.World) {
		if k++; k%13 == 0 {
			checkTurns(t, draw, w, count)
		}
	})
	checkCounts(t, count)
	for _, name := range []string{"a byte of Wrote", "a byte more of Wrote", "a byte less of Wrote", "a byte more of Got and of In", "a byte more of Done", "a byte less of Done", "a byte more of a Load"} {
		if stays, turns := count[name+", and it stays safe"], count[name+", and it is not safe"]; stays < 10 || turns < 10 {
			t.Errorf("%s: %d worlds stayed safe, %d did not", name, stays, turns)
		}
	}
}

// The same of worlds that came of no new one: of calm ones, and of sides that know nothing of each other.
func TestPromise15AnyTurned(t *testing.T) {
	draw := rand.New(rand.NewSource(1503))
	count := map[string]int{}
	for range 20 {
		checkTurns(t, draw, calmWorld(false), count)
		checkTurns(t, draw, calmWorld(true), count)
	}
	checkCounts(t, count)
	for _, w := range pairedWorlds(150, 1504) {
		checkTurns(t, draw, w, count)
	}
}

// Two things turned at once, at one side or at both, and with that several of the eight.
func TestPromise15TwiceTurned(t *testing.T) {
	draw := rand.New(rand.NewSource(1505))
	count, several := map[string]int{}, 0
	all := auditTurns()
	for i := range 4000 {
		w := calmWorld(i%2 == 0)
		first, second := all[draw.Intn(len(all))], all[draw.Intn(len(all))]
		if !first.turn(draw, &w, draw.Intn(2)) || impl.WorldFault(w) != impl.OK || !second.turn(draw, &w, draw.Intn(2)) {
			continue
		}
		got := checkSafe(t, first.name+" and "+second.name, w, count)
		if missed, _ := got.missed(); missed > 1 {
			several++
		}
	}
	if several < 500 || count["safe"] < 50 {
		t.Errorf("several were missing %d times, none %d times", several, count["safe"])
	}
}

// In worlds where nothing is stripped or altered all is right at any time, whatever is lost, late, twice or dead; and they are done just where all that was written can be read, and each end with it.
func TestPromise15WhatComesOfANewWorldIsSafe(t *testing.T) {
	draw := rand.New(rand.NewSource(1506))
	done, undone := 0, 0
	for round := range 40 {
		h := newChronicle(t, draw, map[string]int{})
		for range 150 {
			h.step(t, draw, 0, []int{0, 20}[round%2])
			got := checkAudit(t, "a step", h.w)
			if !got.safe {
				t.Fatalf("%+v of %+v", got, h.w)
			}
			if got.done != isAllThere(h) {
				t.Fatalf("done: %v, written was %q, ended %v, of %+v", got.done, h.wrote, h.fin, h.w)
			}
			if got.done {
				done++
			} else {
				undone++
			}
		}
	}
	if done < 200 || undone < 1000 {
		t.Errorf("%d worlds were done, %d were not", done, undone)
	}
}

// isAllThere reads all that can be read, and asks whether it is what was written.
func isAllThere(h *chronicle) bool {
	for side := range 2 {
		read := impl.ReadWorld(h.w, int64(side), 1000).World
		if string(read.Got[side]) != h.wrote[1-side] || h.fin[1-side] && !read.Ended[side] {
			return false
		}
	}
	return true
}

// An end is told too early where a byte ahead of it is lost, where more is written, or where none was made: each is seen.
func TestPromise15EndsThatAreToldTooEarly(t *testing.T) {
	w := impl.EndWorld(impl.WriteWorld(openWorld(0), 0, []byte("hello")).World, 0).World
	w = impl.TickWorld(w).World
	ahead := turned(w, func(w *impl.World) { w.Ended[1] = true })
	if got := checkAudit(t, "ahead of all", ahead); got.safe || got.prefix[1] || !got.prefix[0] || !got.held[1] {
		t.Errorf("an end ahead of all: %+v", got)
	}
	heard := impl.DeliverWorld(w, 0).World
	for n := range int64(6) {
		read := impl.ReadWorld(heard, 1, n).World
		if got := checkAudit(t, "read", read); !got.safe || !got.done || read.Ended[1] != (n == 5) {
			t.Errorf("%d were read: %+v of %+v", n, got, read)
		}
		read.Ended[1] = true
		if got := checkAudit(t, "read, and told", read); got.safe != (n == 5) || got.prefix[1] != (n == 5) {
			t.Errorf("%d were read, and an end: %+v", n, got)
		}
		more := turned(read, func(w *impl.World) { w.Sides[0].Wrote = append(w.Sides[0].Wrote, '!') })
		if got := checkAudit(t, "read, and written on", more); got.safe || got.prefix[1] || got.held[1] || got.done {
			t.Errorf("%d were read, and an end, and more was written: %+v", n, got)
		}
		open := turned(read, func(w *impl.World) { w.Sides[0].Fin = false })
		if got := checkAudit(t, "read, and not ended", open); got.safe || got.prefix[1] || got.held[1] || !got.done {
			t.Errorf("%d were read, and an end where none was made: %+v", n, got)
		}
	}
}

// A byte that turned on its way, in a world that goes on plainly, is not seen by a side, but by who has both.
func TestPromise15AByteThatTurnedIsSeen(t *testing.T) {
	w := impl.TickWorld(impl.WriteWorld(openWorld(0), 0, []byte("hello")).World).World
	w = impl.MeddleWorld(impl.MeddleWorld(w, 4, 0, 1, 1).World, 3, 0, 0, 0).World
	if got := checkAudit(t, "on its way", w); !got.safe || got.done {
		t.Errorf("on its way: %+v", got)
	}
	w = impl.DeliverWorld(w, 0).World
	if got := checkAudit(t, "heard", w); got.safe || got.held[1] || !got.prefix[1] || got.done {
		t.Errorf("heard: %+v of %+v", got, w)
	}
	w = impl.ReadWorld(w, 1, 1).World
	if got := checkAudit(t, "ahead of it", w); !got.prefix[1] {
		t.Errorf("read ahead of it: %+v", got)
	}
	w = impl.ReadWorld(w, 1, 1).World
	if got := checkAudit(t, "read", w); got.prefix[1] || !got.prefix[0] {
		t.Errorf("read: %+v", got)
	}
}

// Promise 1, of the functions of the chapter.

// auditedWorlds are of each kind, with faults and without, safe and not.
func auditedWorlds() []impl.World {
	draw := rand.New(rand.NewSource(1507))
	out := append(someWorlds(), calmWorld(false), calmWorld(true), impl.NewWorld(5, 7).World)
	for _, one := range auditTurns() {
		w := calmWorld(draw.Intn(2) == 0)
		if one.turn(draw, &w, draw.Intn(2)) {
			out = append(out, w)
		}
	}
	return out
}

func TestPromise1AuditsChangeNothing(t *testing.T) {
	for _, w := range slices.Concat(auditedWorlds(), sharingWorlds()) {
		k := keepWorld(w, nil)
		auditOf(k.w)
		k.check(t, "an audit")
		for _, side := range strangeSides() {
			tellsOfSide(k.w, side)
		}
		k.check(t, "an audit of a side that is none")
		k.spoilAll()
	}
}

func TestPromise1AuditsSameArgumentsSameAnswers(t *testing.T) {
	worlds := auditedWorlds()
	var first []audit
	for _, w := range worlds {
		first = append(first, auditOf(w))
	}
	for range 2 {
		for i := len(worlds) - 1; i >= 0; i-- {
			if again := auditOf(worlds[i]); again != first[i] || again != auditOf(cloneWorld(worlds[i])) {
				t.Fatalf("%+v, then %+v, of %+v", first[i], again, worlds[i])
			}
		}
	}
}

// nil and an empty list are the same value, and what lies in the room behind a list is no part of it.
func TestPromise1AuditsEmptyAndNil(t *testing.T) {
	for _, w := range auditedWorlds() {
		want := auditOf(w)
		for name, v := range map[string]impl.World{"nil": emptiedWorld(w, true), "empty": emptiedWorld(w, false), "roomy": keepWorld(w, nil).w} {
			if got := auditOf(v); got != want {
				t.Fatalf("%s: %+v, want %+v, of %+v", name, got, want, w)
			}
		}
	}
}

// Every function answers at every argument, and no panic comes out: where one would, the run of the tests ends here.
func TestPromise1AuditsAnswerEverywhere(t *testing.T) {
	for _, w := range auditedWorlds() {
		checkAudit(t, "some world", w)
		for _, side := range strangeSides() {
			if got := tellsOfSide(w, side); got != [4]bool{} {
				t.Fatalf("the side %d: %v of %+v", side, got, w)
			}
		}
	}
	for _, base := range []impl.World{plainWorld(), calmWorld(true)} {
		for i, c := range slices.Concat(wrongConns(), drawnConns(60), hearingConns()) {
			w := turned(base, func(w *impl.World) { w.Sides[i%2] = c })
			checkAudit(t, "some conn", w)
		}
	}
}

// Asked while a panic of somebody else is under way, a function answers as ever, and leaves that panic alone.
func TestPromise1AuditsBesideAPanic(t *testing.T) {
	for _, w := range []impl.World{calmWorld(true), turned(calmWorld(true), func(w *impl.World) { w.Ended[1] = true }), {}} {
		want := auditOf(w)
		var got audit
		told := func() (told any) {
			defer func() { told = recover() }()
			defer func() { got = auditOf(w) }()
			panic("somebody else's")
		}()
		if got != want || told != "somebody else's" {
			t.Errorf("%+v, want %+v, told %v", got, want, told)
		}
	}
}
