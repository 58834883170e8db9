package tests

import (
	"bytes"
	"math"
	"math/rand"
	"slices"
	"strings"
	"testing"

	"loop.example/g00230/impl"
)

// chronicle is a world beside what is known of it from outside: what was written, read, ended and told to be ended there.
type chronicle struct {
	w      impl.World
	wrote  [2]string
	read   [2]string
	fin    [2]bool
	told   [2]bool
	turned bool
	did    map[string]int
}

func newChronicle(t *testing.T, draw *rand.Rand, did map[string]int) *chronicle {
	t.Helper()
	got := impl.NewWorld(1+draw.Int63n(999999), 1+draw.Int63n(999999))
	if got.Code != impl.OK || impl.WorldFault(got.World) != impl.OK || len(got.Data) != 0 {
		t.Fatalf("NewWorld = %+v", got)
	}
	return &chronicle{w: got.World, did: did}
}

// turn takes what a call answered; with a code there is nothing to take.
func (h *chronicle) turn(t *testing.T, what string, got impl.WorldResult) bool {
	t.Helper()
	if got.Code != impl.OK {
		if !sameWorlds(got, impl.WorldResult{Code: got.Code}) {
			t.Fatalf("%s: %+v", what, got)
		}
		h.did[what+" with a code"]++
		return false
	}
	if fault := impl.WorldFault(got.World); fault != impl.OK {
		t.Fatalf("%s makes a world with the fault %d: %+v, was %+v", what, fault, got.World, h.w)
	}
	h.did[what]++
	h.w = got.World
	return true
}

// checkElse holds that of a world nothing but what mend mends is other than it was.
func checkElse(t *testing.T, what string, was impl.World, is impl.World, mend func(w *impl.World)) {
	t.Helper()
	if want := turned(was, mend); !sameWorld(is, want) {
		t.Fatalf("%s makes %+v, want %+v", what, is, want)
	}
}

// checkDid holds that the side became what the conn answered, and that what it sent stands behind the Bag, in its order.
func checkDid(t *testing.T, what string, was impl.World, is impl.World, side int64, did impl.ConnResult) {
	t.Helper()
	if did.Code != impl.OK {
		t.Fatalf("%s: the conn told %d, the world told nothing", what, did.Code)
	}
	checkElse(t, what, was, is, func(w *impl.World) {
		w.Sides[side] = did.Conn
		w.Net = impl.PutNet(w.Net, did.Send).Net
	})
	kept := slices.DeleteFunc(cloneList(did.Send), func(g impl.Segment) bool { return was.Net.Dead[g.Path] })
	kept = kept[:min(len(kept), 60-len(was.Net.Bag))]
	if !sameList(is.Net.Bag, slices.Concat(was.Net.Bag, kept)) {
		t.Fatalf("%s: the Bag is %+v, was %+v, sent was %+v", what, is.Net.Bag, was.Net.Bag, did.Send)
	}
}

func (h *chronicle) dial(t *testing.T, path int64, nonce int64) {
	t.Helper()
	was := h.w
	did := impl.DialConn(was.Sides[0], path, nonce, was.Now)
	got := impl.DialWorld(was, path, nonce)
	if got.Code != did.Code {
		t.Fatalf("DialWorld tells %d, DialConn %d", got.Code, did.Code)
	}
	if h.turn(t, "dial", got) {
		checkDid(t, "dial", was, h.w, 0, did)
	}
}

func (h *chronicle) write(t *testing.T, side int64, data []byte) {
	t.Helper()
	was := h.w
	got := impl.WriteWorld(was, side, data)
	if want := impl.WriteConn(was.Sides[side], data).Code; got.Code != want || h.fin[side] && want != impl.ErrState {
		t.Fatalf("WriteWorld tells %d, WriteConn %d, ended: %v", got.Code, want, h.fin)
	}
	if h.turn(t, "write", got) {
		h.wrote[side] += string(data)
		checkElse(t, "write", was, h.w, func(w *impl.World) { w.Sides[side].Wrote = []byte(h.wrote[side]) })
	}
}

func (h *chronicle) end(t *testing.T, side int64) {
	t.Helper()
	was := h.w
	got := impl.EndWorld(was, side)
	if h.fin[side] != (got.Code == impl.ErrState) {
		t.Fatalf("EndWorld = %+v, ended: %v", got, h.fin)
	}
	if h.turn(t, "end", got) {
		h.fin[side] = true
		checkElse(t, "end", was, h.w, func(w *impl.World) { w.Sides[side].Fin = true })
	}
}

// readSome holds that a byte is read once: what is told is what stands in In behind all that was read so far.
func (h *chronicle) readSome(t *testing.T, side int64, n int64) {
	t.Helper()
	was := h.w
	got := impl.ReadWorld(was, side, n)
	if !h.turn(t, "read", got) {
		t.Fatalf("ReadWorld of %d = %+v", n, got)
	}
	done := string(was.Sides[side].In.Done)
	h.read[side] += string(got.Data)
	whole := int64(len(h.read[side])) == was.Sides[side].FinIn
	if !strings.HasPrefix(done, h.read[side]) || int64(len(got.Data)) != min(n, int64(len(done)-len(was.Got[side]))) {
		t.Fatalf("%q was read by %d, of %q, behind %q", got.Data, n, done, was.Got[side])
	}
	h.told[side] = h.told[side] || whole
	checkElse(t, "read", was, h.w, func(w *impl.World) {
		w.Sides[side].Given = int64(len(h.read[side]))
		w.Got[side], w.Ended[side] = []byte(h.read[side]), h.told[side]
	})
	if whole && len(got.Data) == 0 {
		h.did["an end behind nothing"]++
	}
}

func (h *chronicle) deliver(t *testing.T, at int64) {
	t.Helper()
	was := h.w
	if !h.turn(t, "deliver", impl.DeliverWorld(was, at)) {
		t.Fatalf("%+v cannot be delivered at %d", was, at)
	}
	g, side := was.Net.Bag[at], 1-was.Net.Bag[at].From
	left := turned(was, func(w *impl.World) { w.Net.Bag = slices.Delete(w.Net.Bag, int(at), int(at)+1) })
	checkDid(t, "deliver", left, h.w, side, impl.HearConn(was.Sides[side], g, was.Now))
}

func (h *chronicle) tick(t *testing.T) {
	t.Helper()
	was := h.w
	if !h.turn(t, "tick", impl.TickWorld(was)) {
		t.Fatalf("%+v has no more ticks", was)
	}
	checkTicked(t, was, h.w)
}

func checkTicked(t *testing.T, was impl.World, is impl.World) {
	t.Helper()
	first, second := impl.StepConn(was.Sides[0], was.Now+1), impl.StepConn(was.Sides[1], was.Now+1)
	both := impl.ConnResult{Conn: second.Conn, Send: slices.Concat(first.Send, second.Send)}
	later := turned(was, func(w *impl.World) { w.Now, w.Sides[0] = was.Now+1, first.Conn })
	checkDid(t, "tick", later, is, 1, both)
}

func (h *chronicle) meddle(t *testing.T, kind int64, at int64, place int64, mask int64) {
	t.Helper()
	was := h.w
	name := []string{"lose", "copy", "strip", "alter", "kill"}[kind-1]
	if h.turn(t, name, impl.MeddleWorld(was, kind, at, place, mask)) {
		checkMeddled(t, was, h.w, kind, at, place, mask)
		h.turned = h.turned || kind == 3 || kind == 4
	}
}

// checkMeddled holds that what is lost is gone, what is copied there twice, and that nothing at the sides turned.
func checkMeddled(t *testing.T, was impl.World, is impl.World, kind int64, at int64, place int64, mask int64) {
	t.Helper()
	checkElse(t, "meddle", was, is, func(w *impl.World) { w.Net = is.Net })
	bag := cloneList(was.Net.Bag)
	switch kind {
	case 1:
		bag = slices.Delete(bag, int(at), int(at)+1)
	case 2:
		bag = append(bag, bag[at])
	case 3:
		checkStripped(t, was.Net, at, is.Net)
		return
	case 4:
		checkAltered(t, was.Net, at, place, mask, is.Net)
		return
	case 5:
		bag = slices.DeleteFunc(bag, func(g impl.Segment) bool { return g.Path == at })
	}
	dead := slices.Clone(was.Net.Dead)
	if kind == 5 {
		dead[at] = true
	}
	if !sameNet(is.Net, netWith(dead, bag...)) {
		t.Fatalf("the kind %d at %d makes %+v of %+v", kind, at, is.Net, was.Net)
	}
}

// check asks the whole world for what holds at any time.
func (h *chronicle) check(t *testing.T) {
	t.Helper()
	for side := range h.w.Sides {
		if string(h.w.Got[side]) != h.read[side] || h.w.Ended[side] != h.told[side] || h.w.Sides[side].Fin != h.fin[side] || string(h.w.Sides[side].Wrote) != h.wrote[side] {
			t.Fatalf("the side %d of %+v is not as it was told: %+v", side, h.w, h)
		}
		if h.turned {
			continue
		}
		if !strings.HasPrefix(h.wrote[1-side], h.read[side]) {
			t.Fatalf("%q was read, written was %q", h.read[side], h.wrote[1-side])
		}
		if h.told[side] && (!h.fin[1-side] || h.read[side] != h.wrote[1-side]) {
			t.Fatalf("an end was told behind %q, written was %q, ended: %v", h.read[side], h.wrote[1-side], h.fin)
		}
	}
}

// step does one of all things; turns tells which segments may be stripped and altered, kills how seldom a path dies.
func (h *chronicle) step(t *testing.T, draw *rand.Rand, turns int, kills int) {
	t.Helper()
	side, bag := draw.Int63n(2), int64(len(h.w.Net.Bag))
	switch n := draw.Intn(30); {
	case n == 0:
		h.dial(t, draw.Int63n(5)-1, draw.Int63n(1000003)-1)
	case n < 3:
		data := make([]byte, []int{0, 1, 7, 40, 90}[draw.Intn(5)])
		draw.Read(data)
		h.write(t, side, data)
	case n < 5:
		h.readSome(t, side, []int64{0, 1, 3, 20, 1000}[draw.Intn(5)])
	case n == 5 && draw.Intn(8) == 0:
		h.end(t, side)
	case n < 12:
		h.tick(t)
	case n == 12 && kills > 0 && draw.Intn(kills) == 0:
		h.meddle(t, 5, draw.Int63n(3), 0, 0)
	case bag == 0:
	case n == 13:
		h.meddle(t, 1, draw.Int63n(bag), 0, 0)
	case n == 14:
		h.meddle(t, 2, draw.Int63n(bag), 0, 0)
	case n == 15 && turns&1 != 0:
		h.meddle(t, 3, draw.Int63n(bag), 0, 0)
	case n == 16 && turns&2 != 0:
		h.meddle(t, 4, draw.Int63n(bag), draw.Int63n(8), 1+draw.Int63n(255))
	default:
		h.deliver(t, []int64{0, 0, draw.Int63n(bag)}[draw.Intn(3)])
	}
	h.check(t)
}

// settle delivers all that is there, ticks, and reads, with nothing lost.
func (h *chronicle) settle(t *testing.T, rounds int) {
	t.Helper()
	for range rounds {
		for range len(h.w.Net.Bag) {
			h.deliver(t, 0)
		}
		h.tick(t)
		for side := range int64(2) {
			h.readSome(t, side, 1000)
		}
		h.check(t)
	}
}

// Whatever happens in a world it has no fault, and a side gets what it reads once, and in order.
func TestPromise14LongRows(t *testing.T) {
	draw := rand.New(rand.NewSource(1401))
	did := map[string]int{}
	for round := range 120 {
		h := newChronicle(t, draw, did)
		for range 300 {
			h.step(t, draw, max(0, round%6-2), []int{0, 20}[round%2])
		}
		if round%6 < 3 {
			h.settle(t, 40)
		}
		for side := range h.read {
			did["bytes read"] += len(h.read[side])
			if h.told[side] {
				did["ends told"]++
			}
			if h.w.Sides[side].Free {
				did["sides that are free"]++
			}
		}
	}
	for _, what := range []string{"dial", "write", "end", "read", "deliver", "tick", "lose", "copy", "strip", "alter", "kill", "dial with a code", "write with a code", "alter with a code"} {
		if did[what] < 10 {
			t.Errorf("%s came only %d times", what, did[what])
		}
	}
	if did["bytes read"] < 5000 || did["ends told"] < 20 || did["sides that are free"] < 20 || did["an end behind nothing"] < 10 {
		t.Errorf("only this came: %v", did)
	}
}

// The same from worlds that came of no new one: their conns and nets have no fault, and that is all that is asked.
func TestPromise14FromEveryWorld(t *testing.T) {
	draw := rand.New(rand.NewSource(1402))
	did := map[string]int{}
	for _, w := range pairedWorlds(300, 1403) {
		h := &chronicle{w: w, did: did, turned: true}
		for side, c := range w.Sides {
			h.wrote[side], h.read[side], h.fin[side], h.told[side] = string(c.Wrote), string(w.Got[side]), c.Fin, w.Ended[side]
		}
		for range 25 {
			if h.w.Now < 100000 {
				h.step(t, draw, 3, 10)
			}
		}
	}
	if did["deliver"] < 500 || did["tick"] < 300 || did["read"] < 100 || did["kill"] < 10 {
		t.Errorf("only this came: %v", did)
	}
}

// At the last tick there is no further one, and all else goes on.
func TestPromise14AtTheLastTick(t *testing.T) {
	w := turned(impl.WriteWorld(openWorld(0), 0, []byte("hello")).World, func(w *impl.World) { w.Now = 99999 })
	w = impl.TickWorld(w).World
	for range 3 {
		if got := impl.TickWorld(w); !sameWorlds(got, impl.WorldResult{Code: impl.ErrRange}) {
			t.Fatalf("TickWorld = %+v", got)
		}
	}
	w = impl.DeliverWorld(w, 0).World
	if got := impl.ReadWorld(w, 1, 9); string(got.Data) != "hello" || got.World.Now != 100000 {
		t.Errorf("ReadWorld = %+v", got)
	}
}

// What is read in parts is what is read at once, whatever the parts are; then there is nothing more.
func TestPromise14ReadInParts(t *testing.T) {
	draw := rand.New(rand.NewSource(1404))
	several := 0
	for _, w := range rightWorlds(150, 1405) {
		for side := range int64(2) {
			whole := impl.ReadWorld(w, side, 1000)
			var parts []byte
			in := w
			for range 1000 {
				if len(parts) == len(whole.Data) {
					break
				}
				got := impl.ReadWorld(in, side, draw.Int63n(int64(1+len(whole.Data))))
				if got.Code != impl.OK || !bytes.Equal(got.World.Got[side], slices.Concat(in.Got[side], got.Data)) {
					t.Fatalf("ReadWorld = %+v of %+v", got, in)
				}
				parts, in = append(parts, got.Data...), got.World
				several++
			}
			if last := impl.ReadWorld(in, side, 0); !bytes.Equal(parts, whole.Data) || !sameWorld(last.World, whole.World) || len(last.Data) != 0 {
				t.Fatalf("%q was read in parts, %q at once: %+v, %+v", parts, whole.Data, last, whole)
			}
			if again := impl.ReadWorld(whole.World, side, 1000); len(again.Data) != 0 || !sameWorld(again.World, whole.World) {
				t.Fatalf("what was read is read again: %+v", again)
			}
		}
	}
	if several < 300 {
		t.Errorf("only %d reads", several)
	}
}

// Ended stays, whatever is read or happens later on.
func TestPromise14EndedStays(t *testing.T) {
	draw := rand.New(rand.NewSource(1406))
	for _, w := range pairedWorlds(150, 1407) {
		w.Ended = []bool{draw.Intn(2) == 0, draw.Intn(2) == 0}
		was := slices.Clone(w.Ended)
		for name, call := range worldsOf(w, []byte("xyz")) {
			told := call()
			if told.Code != impl.OK || name == "NewWorld" {
				continue
			}
			for side, is := range told.World.Ended {
				c := told.World.Sides[side]
				mayTell := c.FinIn == c.Given
				if was[side] && !is || !was[side] && is && !mayTell {
					t.Fatalf("Ended %v became %v", was, told.World.Ended)
				}
			}
		}
	}
}

// Behind an end a write tells the code of WriteConn, at once and for ever after, and the other side writes on.
func TestPromise14BehindAnEnd(t *testing.T) {
	draw := rand.New(rand.NewSource(1408))
	for round := range 30 {
		side := int64(round % 2)
		h := newChronicle(t, draw, map[string]int{})
		for range draw.Intn(60) {
			h.step(t, draw, 0, 0)
		}
		if !h.fin[side] {
			h.end(t, side)
		}
		for range 60 {
			h.step(t, draw, 3, 20)
			for _, data := range [][]byte{nil, []byte("x"), lettersOf(301)} {
				got, want := impl.WriteWorld(h.w, side, data), impl.WriteConn(h.w.Sides[side], data).Code
				if want != impl.ErrState || !sameWorlds(got, impl.WorldResult{Code: want}) {
					t.Fatalf("WriteWorld behind an end = %+v, WriteConn tells %d", got, want)
				}
			}
			if got := impl.EndWorld(h.w, side); !sameWorlds(got, impl.WorldResult{Code: impl.ErrState}) {
				t.Fatalf("EndWorld behind an end = %+v", got)
			}
		}
	}
}

// Each kind at each place of each net: Now, both Sides, Got and Ended stay.
func TestPromise14MeddledSidesStay(t *testing.T) {
	draw := rand.New(rand.NewSource(1409))
	count := map[int64]int{}
	for _, w := range rightWorlds(60, 1410) {
		for at := int64(0); at < int64(len(w.Net.Bag)); at += 1 + draw.Int63n(4) {
			for kind := int64(1); kind <= 4; kind++ {
				place, mask := draw.Int63n(4), 1+draw.Int63n(255)
				got := impl.MeddleWorld(w, kind, at, place, mask)
				if got.Code == impl.OK {
					count[kind]++
					checkMeddled(t, w, got.World, kind, at, place, mask)
				} else if full := len(w.Net.Bag) == 60; kind == 1 || kind == 3 || kind == 2 && !full || kind == 4 && place < int64(len(w.Net.Bag[at].Load)) {
					t.Fatalf("MeddleWorld(%+v, %d, %d, %d, %d) = %+v", w, kind, at, place, mask, got)
				}
			}
		}
		for path := range int64(3) {
			got := impl.MeddleWorld(w, 5, path, 0, 0)
			if got.Code != impl.OK {
				t.Fatalf("MeddleWorld(%+v, 5, %d) = %+v", w, path, got)
			}
			count[5]++
			checkMeddled(t, w, got.World, 5, path, 0, 0)
		}
	}
	for kind := int64(1); kind <= 5; kind++ {
		if count[kind] < 50 {
			t.Errorf("the kind %d came only %d times", kind, count[kind])
		}
	}
}

// What is copied is heard twice, and what is lost never.
func TestPromise14CopiedAndLost(t *testing.T) {
	w := impl.TickWorld(impl.WriteWorld(openWorld(2), 0, []byte("hello")).World).World
	twice := impl.MeddleWorld(w, 2, 0, 0, 0).World
	if len(twice.Net.Bag) != 2 || !sameFields(twice.Net.Bag[0], twice.Net.Bag[1]) {
		t.Fatalf("copied is %+v", twice.Net)
	}
	once := impl.DeliverWorld(twice, 0).World
	again := impl.DeliverWorld(once, 0).World
	if got := impl.ReadWorld(again, 1, 99); string(got.Data) != "hello" || string(once.Sides[1].In.Done) != "hello" || len(again.Net.Bag) != 2 {
		t.Errorf("heard twice, read is %q: %+v", got.Data, again.Net)
	}
	lost := impl.MeddleWorld(w, 1, 0, 0, 0).World
	for range 3 {
		lost = impl.TickWorld(lost).World
		if got := impl.ReadWorld(lost, 1, 99); len(got.Data) != 0 || len(lost.Net.Bag) != 0 {
			t.Errorf("lost, read is %q: %+v", got.Data, lost.Net)
		}
	}
	if anew := impl.TickWorld(lost).World; len(anew.Net.Bag) != 1 || string(anew.Net.Bag[0].Load) != "hello" {
		t.Errorf("lost, and not sent again: %+v", anew.Net)
	}
}

// The side that hears is the one that the segment is not From, and it hears with Now: each segment of each net.
func TestPromise14TheOtherSideHears(t *testing.T) {
	var heard [2]int
	for _, w := range rightWorlds(100, 1411) {
		for at, g := range w.Net.Bag {
			if len(w.Net.Bag) > 20 && at%7 != 0 {
				continue
			}
			h := &chronicle{w: w, did: map[string]int{}, turned: true}
			h.deliver(t, int64(at))
			if !sameConn(h.w.Sides[g.From], w.Sides[g.From]) {
				t.Fatalf("%+v turned who sent it", g)
			}
			if !sameConn(h.w.Sides[1-g.From], w.Sides[1-g.From]) {
				heard[1-g.From]++
			}
		}
	}
	if heard[0] < 50 || heard[1] < 50 {
		t.Errorf("only %v segments made a side other than it was", heard)
	}
}

// A tick lets the side 0, then the side 1, step with the new Now, and puts what they send in that order.
func TestPromise14BothSidesStep(t *testing.T) {
	both, mine, hers, none := 0, 0, 0, 0
	for _, w := range pairedWorlds(400, 1412) {
		if w.Now == 100000 {
			continue
		}
		got := impl.TickWorld(w)
		if got.Code != impl.OK {
			t.Fatalf("TickWorld(%+v) = %+v", w, got)
		}
		checkTicked(t, w, got.World)
		a, b := len(impl.StepConn(w.Sides[0], w.Now+1).Send) > 0, len(impl.StepConn(w.Sides[1], w.Now+1).Send) > 0
		switch {
		case a && b:
			both++
		case a:
			mine++
		case b:
			hers++
		default:
			none++
		}
	}
	if both < 50 || mine < 20 || hers < 20 || none < 20 {
		t.Errorf("both sent %d times, one alone %d and %d, none %d", both, mine, hers, none)
	}
}

// Promise 1, of the functions of the chapter.

// keptWorld is a world, and data to write, with room behind their lists, and a copy of all of it.
type keptWorld struct {
	w                impl.World
	data             []byte
	conns            []keptConn
	net              *keptNet
	sides, keptSides []impl.Conn
	got, keptGot     [][]byte
	backs, keptBacks [][]byte
	ended, keptEnded []bool
}

func (k *keptWorld) keepBytes(list []byte) []byte {
	back, part := roomy(list)
	k.backs, k.keptBacks = append(k.backs, back), append(k.keptBacks, slices.Clone(back))
	return part
}

func keepWorld(w impl.World, data []byte) *keptWorld {
	k := &keptWorld{net: keepNet(w.Net, nil)}
	k.data = k.keepBytes(data)
	for _, c := range append(slices.Clone(w.Sides), impl.Conn{Side: 71}, impl.Conn{Side: 72, Wrote: []byte("room")}) {
		kept := keepConn(c)
		k.conns = append(k.conns, kept)
		k.sides, k.keptSides = append(k.sides, kept.c), append(k.keptSides, cloneConn(kept.c))
	}
	for _, got := range append(slices.Clone(w.Got), []byte("room"), nil) {
		k.got, k.keptGot = append(k.got, k.keepBytes(got)), append(k.keptGot, slices.Clone(got))
	}
	k.ended = append(slices.Clone(w.Ended), true, false, true)
	k.keptEnded = slices.Clone(k.ended)
	k.w = impl.World{Now: w.Now, Sides: k.sides[:len(w.Sides)], Net: k.net.n, Got: k.got[:len(w.Got)], Ended: k.ended[:len(w.Ended)]}
	return k
}

func (k *keptWorld) check(t *testing.T, what string) {
	t.Helper()
	for _, c := range k.conns {
		c.check(t, what)
	}
	k.net.check(t, what)
	same := slices.EqualFunc(k.sides, k.keptSides, sameConn) && slices.EqualFunc(k.got, k.keptGot, bytes.Equal) &&
		slices.EqualFunc(k.backs, k.keptBacks, bytes.Equal) && slices.Equal(k.ended, k.keptEnded)
	if !same {
		t.Fatalf("%s: %+v is changed, its sides were %+v, Got %q, Ended %v", what, k.w, k.keptSides, k.keptGot, k.keptEnded)
	}
}

// spoilAll writes over all that came in.
func (k *keptWorld) spoilAll() {
	for _, back := range k.backs {
		spoil(back)
	}
	for _, c := range k.conns {
		spoilConns(impl.ConnResult{Conn: c.c})
	}
	k.net.spoilAll()
	clear(k.sides)
	clear(k.got)
	for i := range k.ended {
		k.ended[i] = !k.ended[i]
	}
}

// spoilers write each over one part of an answer, and over the room behind it.
func spoilers(r impl.WorldResult) (out []func()) {
	for _, c := range r.World.Sides {
		out = append(out, func() { spoilConns(impl.ConnResult{Conn: c}) })
	}
	for _, got := range r.World.Got {
		out = append(out, func() { spoil(got) })
	}
	return append(out,
		func() { spoil(r.Data) },
		func() { spoilNets(impl.NetResult{Net: r.World.Net}) },
		func() {
			for i, ended := 0, r.World.Ended[:cap(r.World.Ended)]; i < len(ended); i++ {
				ended[i] = !ended[i]
			}
		},
	)
}

func spoilWorlds(r impl.WorldResult) {
	for _, spoilPart := range spoilers(r) {
		spoilPart()
	}
	clear(r.World.Sides[:cap(r.World.Sides)])
	clear(r.World.Got[:cap(r.World.Got)])
}

// worldsOf are calls that answer a world: what changes nothing, what changes much, and what tells a code.
func worldsOf(w impl.World, data []byte) map[string]func() impl.WorldResult {
	last := int64(len(w.Net.Bag)) - 1
	calls := map[string]func() impl.WorldResult{
		"NewWorld":       func() impl.WorldResult { return impl.NewWorld(5, 7) },
		"NewWorld wrong": func() impl.WorldResult { return impl.NewWorld(5, 0) },
		"DialWorld 0":    func() impl.WorldResult { return impl.DialWorld(w, 0, 3) },
		"DialWorld 1":    func() impl.WorldResult { return impl.DialWorld(w, 1, 3) },
		"DialWorld 2":    func() impl.WorldResult { return impl.DialWorld(w, 2, 3) },
		"TickWorld":      func() impl.WorldResult { return impl.TickWorld(w) },
		"MeddleWorld 6":  func() impl.WorldResult { return impl.MeddleWorld(w, 6, 0, 0, 0) },
		"MeddleWorld 5":  func() impl.WorldResult { return impl.MeddleWorld(w, 5, 1, 0, 0) },
	}
	for side, name := range []string{" at 0", " at 1", " at 2"} {
		side := int64(side)
		calls["WriteWorld"+name] = func() impl.WorldResult { return impl.WriteWorld(w, side, data) }
		calls["WriteWorld of nothing"+name] = func() impl.WorldResult { return impl.WriteWorld(w, side, nil) }
		calls["ReadWorld of nothing"+name] = func() impl.WorldResult { return impl.ReadWorld(w, side, 0) }
		calls["ReadWorld of two"+name] = func() impl.WorldResult { return impl.ReadWorld(w, side, 2) }
		calls["ReadWorld of all"+name] = func() impl.WorldResult { return impl.ReadWorld(w, side, 1000) }
		calls["EndWorld"+name] = func() impl.WorldResult { return impl.EndWorld(w, side) }
	}
	for name, at := range map[string]int64{", the first": 0, ", one between": last / 2, ", the last": last, ", none": last + 1} {
		calls["DeliverWorld"+name] = func() impl.WorldResult { return impl.DeliverWorld(w, at) }
		calls["MeddleWorld 1"+name] = func() impl.WorldResult { return impl.MeddleWorld(w, 1, at, 0, 0) }
		calls["MeddleWorld 2"+name] = func() impl.WorldResult { return impl.MeddleWorld(w, 2, at, 0, 0) }
		calls["MeddleWorld 3"+name] = func() impl.WorldResult { return impl.MeddleWorld(w, 3, at, 0, 0) }
		calls["MeddleWorld 4"+name] = func() impl.WorldResult { return impl.MeddleWorld(w, 4, at, 0, 129) }
	}
	return calls
}

// someWorlds are of each kind, with faults and without.
func someWorlds() []impl.World {
	var wrong []impl.World
	for i, w := range wrongWorlds() {
		if i%4 == 0 {
			wrong = append(wrong, w)
		}
	}
	return slices.Concat(rightWorlds(60, 1420), wrong, []impl.World{plainWorld(), {}})
}

// worldCalls are calls that answer a world, by name: of a world, and of data to write.
type worldCalls func(w impl.World, data []byte) map[string]func() impl.WorldResult

// checkNothingChanged asks the faults, too, which every call asks first.
func checkNothingChanged(t *testing.T, calls worldCalls, worlds []impl.World) {
	t.Helper()
	for _, w := range worlds {
		k := keepWorld(w, []byte("xyz"))
		impl.WorldFault(k.w)
		for name, call := range calls(k.w, k.data) {
			call()
			k.check(t, name)
		}
	}
}

func checkNewMemory(t *testing.T, calls worldCalls, worlds []impl.World) {
	t.Helper()
	for _, w := range worlds {
		k := keepWorld(w, []byte("xyz"))
		for name, call := range calls(k.w, k.data) {
			got := call()
			was := cloneWorlds(got)
			spoilWorlds(got)
			k.check(t, name+" was written over")
			if again := call(); !sameWorlds(again, was) {
				t.Fatalf("%s that was written over is told again: %+v, was %+v", name, again, was)
			}
		}
	}
}

// checkStay looks the other way round: an answer stays as it is where an argument is written over.
func checkStay(t *testing.T, calls worldCalls, worlds []impl.World) {
	t.Helper()
	for _, w := range worlds {
		for name := range calls(w, nil) {
			k := keepWorld(w, []byte("xyz"))
			got := calls(k.w, k.data)[name]()
			was := cloneWorlds(got)
			k.spoilAll()
			if !sameWorlds(got, was) {
				t.Fatalf("%s of %+v turns with its arguments: %+v, was %+v", name, w, got, was)
			}
		}
	}
}

// checkSameAgain calls all of all worlds, and then all again in another order, whatever was called meanwhile.
func checkSameAgain(t *testing.T, calls worldCalls, worlds []impl.World) {
	t.Helper()
	var first []map[string]impl.WorldResult
	for _, w := range worlds {
		row := map[string]impl.WorldResult{}
		for name, call := range calls(w, []byte("xyz")) {
			row[name] = call()
			spoilWorlds(call())
		}
		first = append(first, row)
	}
	for range 2 {
		for i := len(worlds) - 1; i >= 0; i-- {
			for name, call := range calls(worlds[i], []byte("xyz")) {
				if again := call(); !sameWorlds(again, first[i][name]) {
					t.Fatalf("%s of %+v = %+v, then %+v", name, worlds[i], first[i][name], again)
				}
			}
		}
	}
}

// checkEmptyAndNil holds that nil and an empty list are the same value, wherever a list comes in.
func checkEmptyAndNil(t *testing.T, calls worldCalls, worlds []impl.World) {
	t.Helper()
	for _, w := range worlds {
		others := calls(emptiedWorld(w, false), []byte{})
		for name, call := range calls(emptiedWorld(w, true), nil) {
			if x, y := call(), others[name](); !sameWorlds(x, y) {
				t.Fatalf("%s of %+v tells nil and an empty list apart: %+v, %+v", name, w, x, y)
			}
		}
	}
}

// everySecond has the worlds from that one on, and leaves one out each time.
func everySecond(worlds []impl.World, from int) (out []impl.World) {
	for i := from; i < len(worlds); i += 2 {
		out = append(out, worlds[i])
	}
	return out
}

func TestPromise1WorldsAreNotChanged(t *testing.T) {
	checkNothingChanged(t, worldsOf, someWorlds())
}

func TestPromise1WorldsAreNewMemory(t *testing.T) {
	checkNewMemory(t, worldsOf, someWorlds())
}

func TestPromise1WorldsStayWhereArgumentsTurn(t *testing.T) {
	checkStay(t, worldsOf, everySecond(someWorlds(), 1))
}

// sharingWorlds have lists that are one memory, or two parts of one: what was got and what came in, one side and the other, and a segment twice.
func sharingWorlds() (out []impl.World) {
	for _, w := range append(pairedWorlds(20, 1421), plainWorld(), openWorld(0)) {
		for side, c := range w.Sides {
			w.Got[side] = c.In.Done[:c.Given]
		}
		out = append(out, w)
		w = cloneWorld(w)
		w.Sides[1] = w.Sides[0]
		w.Sides[1].Side, w.Sides[1].Subs = 1, nil
		w.Sides[1].Free, w.Got[1] = false, w.Got[0]
		if len(w.Net.Bag) > 0 {
			w.Net.Bag = append(w.Net.Bag[:min(len(w.Net.Bag), 59)], w.Net.Bag[0])
		}
		out = append(out, w)
	}
	return out
}

// checkWorldApart holds that no two parts of one answer share memory, nor two lists of one part.
func checkWorldApart(t *testing.T, what string, call func() impl.WorldResult) {
	t.Helper()
	for i := range spoilers(call()) {
		got := call()
		// In a clone nothing is shared: what is written over there is that part alone.
		want := cloneWorlds(got)
		spoilers(got)[i]()
		spoilers(want)[i]()
		if !sameWorlds(got, want) {
			t.Fatalf("%s: the part %d shares memory with another one", what, i)
		}
	}
	got := call()
	for _, c := range got.World.Sides {
		checkListsApart(t, what, impl.ConnResult{Conn: c, Send: got.World.Net.Bag, Data: got.Data})
	}
}

func TestPromise1ListsOfOneWorldAreApart(t *testing.T) {
	for _, w := range slices.Concat(sharingWorlds(), rightWorlds(20, 1422)) {
		if impl.WorldFault(w) != impl.OK {
			t.Fatalf("%+v has a fault", w)
		}
		for name, call := range worldsOf(w, w.Sides[0].Wrote) {
			checkWorldApart(t, name, call)
		}
	}
}

// What is read is told twice, as Data and behind Got: each is memory of its own, and so is what came In.
func TestPromise1DataAndGotAreApart(t *testing.T) {
	for side := range int64(2) {
		got := impl.ReadWorld(readingWorld(0, 6, false), side, 6)
		got.Data[0], got.World.Got[side][1] = 'x', 'y'
		got.World.Sides[side].In.Done[2] = 'z'
		if string(got.Data) != "xbcdef" || string(got.World.Got[side]) != "aycdef" || string(got.World.Sides[side].In.Done) != "abzdef" {
			t.Errorf("%q, %q and %q share memory", got.Data, got.World.Got[side], got.World.Sides[side].In.Done)
		}
	}
}

// The bytes of a segment that is heard are the hearer's own then: neither its argument nor what is still on its way turns with them.
func TestPromise1WhatWasHeardIsApart(t *testing.T) {
	w := impl.TickWorld(impl.WriteWorld(openWorld(0), 0, []byte("hello")).World).World
	w = impl.MeddleWorld(w, 2, 0, 0, 0).World
	got := impl.DeliverWorld(w, 0)
	if string(got.World.Sides[1].In.Done) != "hello" || string(got.World.Net.Bag[0].Load) != "hello" || string(w.Net.Bag[0].Load) != "hello" || string(w.Net.Bag[1].Load) != "hello" {
		t.Fatalf("DeliverWorld = %+v", got)
	}
	got.World.Sides[1].In.Done[0] = 'x'
	if string(got.World.Net.Bag[0].Load) != "hello" || string(w.Net.Bag[0].Load) != "hello" {
		t.Errorf("what was heard shares memory: %+v, %+v", got.World.Net, w.Net)
	}
}

func TestPromise1WorldsSameArgumentsSameAnswers(t *testing.T) {
	worlds := everySecond(someWorlds(), 0)
	checkSameAgain(t, worldsOf, worlds)
	for _, w := range worlds {
		if impl.WorldFault(w) != worldFaultModel(w) {
			t.Fatalf("%+v has another fault than it had", w)
		}
	}
}

func emptiedWorld(w impl.World, isNil bool) impl.World {
	out := impl.World{Now: w.Now, Net: emptiedNet(w.Net, isNil), Sides: emptyOr[impl.Conn](isNil), Got: emptyOr[[]byte](isNil), Ended: emptyOr[bool](isNil)}
	for _, c := range w.Sides {
		out.Sides = append(out.Sides, emptied(c, isNil))
	}
	for _, got := range w.Got {
		out.Got = append(out.Got, append(emptyOr[byte](isNil), got...))
	}
	out.Ended = append(out.Ended, w.Ended...)
	return out
}

func TestPromise1EmptyWorldsAndNil(t *testing.T) {
	worlds := append(someWorlds(), impl.NewWorld(5, 7).World)
	checkEmptyAndNil(t, worldsOf, worlds)
	for _, w := range worlds {
		if a, b := emptiedWorld(w, true), emptiedWorld(w, false); impl.WorldFault(a) != impl.WorldFault(b) {
			t.Fatalf("%+v and %+v are told apart", a, b)
		}
	}
}

// Every function answers at every argument, one wrong beside another, and with a code all else is zero.
func TestPromise1WorldsAnswerEverywhere(t *testing.T) {
	check := func(what string, got impl.WorldResult) {
		if got.Code != impl.OK && !sameWorlds(got, impl.WorldResult{Code: got.Code}) || got.Code == impl.OK && impl.WorldFault(got.World) != impl.OK {
			t.Fatalf("%s = %+v", what, got)
		}
	}
	numbers := []int64{math.MinInt64, math.MinInt64 + 1, -1 << 32, -1, 0, 1, 2, 3, 4, 5, 6, 59, 60, 255, 256, 1000, 1001, 1000000, 1000001, 1 << 32, math.MaxInt64 - 1, math.MaxInt64}
	for i, w := range someWorlds() {
		for k, n := range numbers {
			other := numbers[(i+3*k)%len(numbers)]
			check("DialWorld", impl.DialWorld(w, n, other))
			check("WriteWorld", impl.WriteWorld(w, n, dataRows()[(i+k)%len(dataRows())]))
			check("ReadWorld", impl.ReadWorld(w, n, other))
			check("ReadWorld", impl.ReadWorld(w, int64(i%2), n))
			check("EndWorld", impl.EndWorld(w, n))
			check("DeliverWorld", impl.DeliverWorld(w, n))
			check("MeddleWorld", impl.MeddleWorld(w, n, other, n, other))
			for kind := int64(1); kind <= 5; kind++ {
				check("MeddleWorld", impl.MeddleWorld(w, kind, n, other, numbers[(i+k)%len(numbers)]))
			}
			check("NewWorld", impl.NewWorld(n, other))
		}
		check("TickWorld", impl.TickWorld(w))
	}
	base := plainWorld()
	for i, c := range append(wrongConns(), impl.Conn{Side: math.MinInt64, Given: math.MaxInt64, FinIn: math.MinInt64, Acked: math.MinInt64}) {
		w := turned(base, func(w *impl.World) { w.Sides[i%2] = c })
		check("DialWorld", impl.DialWorld(w, 0, 0))
		check("ReadWorld", impl.ReadWorld(w, int64(i%2), 1000))
		check("DeliverWorld", impl.DeliverWorld(w, 0))
		check("TickWorld", impl.TickWorld(w))
		check("MeddleWorld", impl.MeddleWorld(w, 1, 0, 0, 0))
	}
}
