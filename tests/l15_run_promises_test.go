package tests

import (
	"math"
	"math/rand"
	"slices"
	"strings"
	"testing"

	"loop.example/g00230/impl"
)

// trouble is what may befall segments on their way, each in parts of 100 of what is tried.
type trouble struct {
	name                         string
	loses, copies, strips, turns int
	kills                        int
	stripsAll                    bool
}

// journey is a world that came of a new one, beside what was written and ended there.
type journey struct {
	w     impl.World
	wrote [2]string
	fin   [2]bool
	did   map[string]int
}

func newJourney(draw *rand.Rand, did map[string]int) *journey {
	return &journey{w: impl.NewWorld(1+draw.Int63n(999999), 1+draw.Int63n(999999)).World, did: did}
}

// turn takes what a call answered; with a code there is nothing to take.
func (j *journey) turn(t *testing.T, what string, got impl.WorldResult) bool {
	t.Helper()
	if got.Code != impl.OK {
		return false
	}
	if fault := impl.WorldFault(got.World); fault != impl.OK {
		t.Fatalf("%s makes a world with the fault %d: %+v, was %+v", what, fault, got.World, j.w)
	}
	j.did[what]++
	j.w = got.World
	return true
}

func (j *journey) write(t *testing.T, side int64, data []byte) {
	t.Helper()
	if j.turn(t, "write", impl.WriteWorld(j.w, side, data)) {
		j.wrote[side] += string(data)
	}
}

func (j *journey) end(t *testing.T, side int64) {
	t.Helper()
	if j.turn(t, "end", impl.EndWorld(j.w, side)) {
		j.fin[side] = true
	}
}

// checkRead holds that what a side Got is the beginning of what the other one wrote, and that it is Ended only behind all of that.
func (j *journey) checkRead(t *testing.T, w impl.World) {
	t.Helper()
	for side := range 2 {
		got, wrote := string(w.Got[side]), j.wrote[1-side]
		if !strings.HasPrefix(wrote, got) {
			t.Fatalf("the side %d got %q, written was %q: %+v", side, got, wrote, w)
		}
		if w.Ended[side] && (got != wrote || !j.fin[1-side]) {
			t.Fatalf("the side %d is Ended behind %q, written was %q, ended: %v", side, got, wrote, j.fin)
		}
	}
}

// check asks what was read, and what could be.
func (j *journey) check(t *testing.T) {
	t.Helper()
	j.checkRead(t, j.w)
	all := impl.ReadAll(j.w)
	if all.Code != impl.OK || !strings.HasSuffix(string(all.World.Got[1]), string(all.Data)) {
		t.Fatalf("ReadAll of %+v = %+v", j.w, all)
	}
	j.checkRead(t, all.World)
}

// lateRound is a round in which some of the segments stay behind, to be delivered in a later one.
func (j *journey) lateRound(t *testing.T, draw *rand.Rand) {
	t.Helper()
	at := int64(0)
	for range len(j.w.Net.Bag) {
		if draw.Intn(3) == 0 {
			at++
			j.did["a round later"]++
			continue
		}
		j.turn(t, "deliver", impl.DeliverWorld(j.w, at))
	}
	j.turn(t, "tick", impl.TickWorld(j.w))
}

// isSeen tells whether the sum of a load that turned is another one than that it was sent with.
func isSeen(g impl.Segment) bool {
	return g.B != impl.SumLoad(g.A/1000, g.Load)
}

// befall does that trouble to one segment, if it is drawn; a byte turns only where the sum of its load sees it.
func (j *journey) befall(t *testing.T, draw *rand.Rand, of trouble) {
	t.Helper()
	if draw.Intn(100) < of.kills {
		j.turn(t, "kill", impl.MeddleWorld(j.w, 5, draw.Int63n(3), 0, 0))
	}
	count := int64(len(j.w.Net.Bag))
	if count == 0 {
		return
	}
	at := draw.Int63n(count)
	switch n := draw.Intn(100); {
	case n < of.loses:
		j.turn(t, "lose", impl.MeddleWorld(j.w, 1, at, 0, 0))
	case n < of.loses+of.copies:
		j.turn(t, "copy", impl.MeddleWorld(j.w, 2, at, 0, 0))
	case n < of.loses+of.copies+of.strips:
		j.turn(t, "strip", impl.MeddleWorld(j.w, 3, at, 0, 0))
	case n < of.loses+of.copies+of.strips+of.turns:
		got := impl.MeddleWorld(j.w, 4, at, draw.Int63n(8), 1+draw.Int63n(255))
		if got.Code == impl.OK && isSeen(got.World.Net.Bag[at]) {
			j.turn(t, "alter", got)
		}
	}
}

// step does one of all calls, and then one trouble; with stripsAll no option is left whenever something is delivered.
func (j *journey) step(t *testing.T, draw *rand.Rand, of trouble, most int) {
	t.Helper()
	side, count := draw.Int63n(2), int64(len(j.w.Net.Bag))
	mostRounds := int64(6)
	if of.stripsAll {
		j.w, mostRounds = strippedAll(t, j.w), 1
	}
	switch n := draw.Intn(32); {
	case n < 2:
		j.turn(t, "dial", impl.DialWorld(j.w, draw.Int63n(3), draw.Int63n(1000001)))
	case n < 5:
		data := make([]byte, draw.Intn(most+1))
		draw.Read(data)
		j.write(t, side, data)
	case n < 7:
		j.turn(t, "read", impl.ReadWorld(j.w, side, []int64{0, 1, 5, 30, 1000}[draw.Intn(5)]))
	case n == 7 && draw.Intn(5) == 0:
		j.end(t, side)
	case n == 8:
		j.turn(t, "read all", impl.ReadAll(j.w))
	case n < 13:
		j.turn(t, "tick", impl.TickWorld(j.w))
	case n < 16:
		j.turn(t, "round", impl.RoundWorld(j.w))
	case n == 16:
		ran := impl.RunWorld(j.w, draw.Int63n(mostRounds+1))
		j.turn(t, "run", impl.WorldResult{Code: ran.Code, World: ran.World})
	case n == 17:
		settled := impl.SettleWorld(j.w, draw.Int63n(mostRounds+1))
		j.turn(t, "settle", impl.WorldResult{Code: settled.Code, World: settled.World})
	case n < 20 && !of.stripsAll:
		j.lateRound(t, draw)
	case count > 0:
		j.turn(t, "deliver", impl.DeliverWorld(j.w, []int64{0, draw.Int63n(count)}[draw.Intn(2)]))
	}
	j.befall(t, draw, of)
	if of.stripsAll {
		j.w = strippedAll(t, j.w)
	}
}

// countSides tells what became of a world, so that the rows are seen to have been something.
func (j *journey) countSides() {
	all := impl.ReadAll(j.w).World
	for side, c := range all.Sides {
		j.did["bytes read"] += len(all.Got[side])
		for what, is := range map[string]bool{"ends told": all.Ended[side], "plain sides": c.Plain, "free sides": c.Free} {
			if is {
				j.did[what]++
			}
		}
		for _, x := range c.Subs {
			if x.State == impl.SubClosed {
				j.did["closed paths"]++
			}
		}
	}
}

// checkCame holds that each of these came often enough.
func checkCame(t *testing.T, name string, did map[string]int, least map[string]int) {
	t.Helper()
	for what, count := range least {
		if did[what] < count {
			t.Errorf("%s: %s came only %d times", name, what, did[what])
		}
	}
}

// What is read is the beginning of what was written, and an end is told where it is: each trouble in many long rows of calls.
func TestPromise16ReadIsTheBeginning(t *testing.T) {
	for k, row := range []struct {
		trouble
		least map[string]int
	}{
		{trouble{name: "nothing"}, map[string]int{"a round later": 200, "ends told": 30, "free sides": 30}},
		{trouble{name: "lost", loses: 25}, map[string]int{"lose": 1000, "ends told": 15, "free sides": 30}},
		{trouble{name: "twice", copies: 40}, map[string]int{"copy": 1000, "ends told": 30, "free sides": 30}},
		{trouble{name: "lost, twice and dead", loses: 10, copies: 25, kills: 1}, map[string]int{"lose": 300, "copy": 1000, "kill": 50, "ends told": 5}},
		{trouble{name: "some stripped", strips: 5}, map[string]int{"strip": 200, "plain sides": 20, "closed paths": 10, "ends told": 15}},
		{trouble{name: "some lost, twice and stripped", loses: 10, copies: 15, strips: 10}, map[string]int{"lose": 300, "copy": 300, "strip": 300, "plain sides": 30, "closed paths": 10}},
		{trouble{name: "many stripped, and dead", copies: 10, strips: 60, kills: 1}, map[string]int{"strip": 1000, "kill": 30, "plain sides": 30}},
		{trouble{name: "all stripped", stripsAll: true}, map[string]int{"plain sides": 100, "ends told": 30}},
		{trouble{name: "all stripped, lost and twice", loses: 15, copies: 20, stripsAll: true}, map[string]int{"lose": 300, "copy": 300, "plain sides": 100, "ends told": 15}},
		{trouble{name: "some turned", turns: 5}, map[string]int{"alter": 30, "closed paths": 20, "ends told": 10}},
		{trouble{name: "some lost, twice and turned", loses: 10, copies: 20, turns: 10, kills: 1}, map[string]int{"lose": 300, "copy": 300, "alter": 50, "kill": 30, "closed paths": 20}},
		{trouble{name: "many turned", turns: 90}, map[string]int{"alter": 100, "closed paths": 60}},
	} {
		did := map[string]int{}
		for round := range 100 {
			draw := rand.New(rand.NewSource(int64(16000 + 100*k + round)))
			j := newJourney(draw, did)
			for range 200 {
				j.step(t, draw, row.trouble, []int{3, 12, 40}[round%3])
				j.check(t)
			}
			j.countSides()
		}
		checkCame(t, row.name, did, map[string]int{"dial": 100, "write": 500, "read": 200, "read all": 100, "round": 300, "run": 100, "settle": 100, "tick": 500, "deliver": 500, "bytes read": 500})
		checkCame(t, row.name, did, row.least)
	}
}

// fates are what becomes of the segments that are delivered first, one bit each; behind them all go well.
type fates struct {
	bits, count int
}

// next is true where it befalls the next one.
func (f *fates) next() bool {
	if f.count == 0 {
		return false
	}
	is := f.bits%2 == 1
	f.bits, f.count = f.bits/2, f.count-1
	return is
}

// fatedRound is a round in which those segments that f tells are lost, delivered twice, late, stripped or turned.
func (j *journey) fatedRound(t *testing.T, f *fates, befalls string) {
	t.Helper()
	at := int64(0)
	for left := int64(len(j.w.Net.Bag)); left > 0; left-- {
		is := f.next()
		switch {
		case is && befalls == "lost":
			j.must(t, "lose", impl.MeddleWorld(j.w, 1, at, 0, 0))
			continue
		case is && befalls == "a round later":
			at++
			continue
		case is && befalls == "overtaken":
			j.must(t, "deliver", impl.DeliverWorld(j.w, at+left-1))
			continue
		case is && befalls == "twice":
			j.must(t, "copy", impl.MeddleWorld(j.w, 2, at, 0, 0))
		case is && befalls == "stripped":
			j.must(t, "strip", impl.MeddleWorld(j.w, 3, at, 0, 0))
		case is && befalls == "turned" && len(j.w.Net.Bag[at].Load) > 0:
			j.must(t, "alter", impl.MeddleWorld(j.w, 4, at, 0, 1))
		}
		j.must(t, "deliver", impl.DeliverWorld(j.w, at))
	}
	j.must(t, "tick", impl.TickWorld(j.w))
}

// smallJourney has bytes to go both ways, over one path or two, and an end.
func smallJourney(t *testing.T, paths int64, did map[string]int) *journey {
	t.Helper()
	j := &journey{w: impl.NewWorld(5, 7).World, did: did}
	for path := range paths {
		j.must(t, "round", impl.RoundWorld(j.w))
		j.must(t, "round", impl.RoundWorld(j.w))
		j.must(t, "dial", impl.DialWorld(j.w, 2-path, 3))
	}
	j.write(t, 0, []byte("hello over there"))
	j.write(t, 1, []byte("and hello"))
	j.end(t, 0)
	return j
}

// checkComes holds that with nothing more lost all that was written comes there, in the rounds that are told, and each end with it.
func (j *journey) checkComes(t *testing.T, what string) {
	t.Helper()
	rounds := impl.RoundsFor(j.w).Value
	if rounds >= impl.MaxRounds {
		t.Fatalf("%s: too much to ask of %+v", what, j.w)
	}
	settled := impl.SettleWorld(j.w, rounds)
	if settled.Code != impl.OK || settled.Rounds > rounds || !j.isAllThere(settled.World) {
		t.Fatalf("%s: %d rounds of %d make %+v, written was %q, ended %v, of %+v", what, settled.Rounds, rounds, settled, j.wrote, j.fin, j.w)
	}
	j.did["all there"]++
	j.did["rounds"] += int(settled.Rounds)
	j.checkRead(t, impl.ReadAll(settled.World).World)
}

// isAllThere asks what is Done, and what can be read of it.
func (j *journey) isAllThere(w impl.World) bool {
	if !impl.DoneWorld(w) {
		return false
	}
	read := impl.ReadAll(w).World
	for side, c := range read.Sides {
		wrote := j.wrote[1-side]
		if string(c.In.Done) != wrote || string(read.Got[side]) != wrote || read.Ended[side] != j.fin[1-side] {
			return false
		}
	}
	return true
}

// everyFate does the same to each choice of the segments that are delivered first.
func everyFate(t *testing.T, befalls string, did map[string]int, tell func(j *journey)) {
	t.Helper()
	for paths := int64(1); paths <= 2; paths++ {
		for bits := range 1 << 8 {
			j := smallJourney(t, paths, did)
			f := &fates{bits: bits, count: 8}
			for range 8 {
				j.fatedRound(t, f, befalls)
				j.check(t)
			}
			tell(j)
		}
	}
}

// Whichever of the first segments are lost, twice, overtaken by others or a round later: all comes there.
func TestPromise16WhicheverIsLostOrLate(t *testing.T) {
	for befalls, least := range map[string]map[string]int{"lost": {"lose": 1500, "deliver": 4000}, "twice": {"copy": 1500, "deliver": 6000}, "overtaken": {"deliver": 5000}, "a round later": {"deliver": 5000}} {
		did := map[string]int{}
		everyFate(t, befalls, did, func(j *journey) { j.checkComes(t, befalls) })
		checkCame(t, befalls, did, least)
		checkCame(t, befalls, did, map[string]int{"all there": 512})
	}
}

// Whichever of them are stripped or turn: what comes there is right.
func TestPromise16WhicheverIsStrippedOrTurns(t *testing.T) {
	for befalls, least := range map[string]map[string]int{"stripped": {"strip": 1000, "plain sides": 200}, "turned": {"alter": 500, "closed paths": 200}} {
		did := map[string]int{}
		everyFate(t, befalls, did, func(j *journey) {
			j.w = impl.RunWorld(j.w, 12).World
			j.check(t)
			j.countSides()
		})
		checkCame(t, befalls, did, least)
	}
}

// must is for a call that tells no code.
func (j *journey) must(t *testing.T, what string, got impl.WorldResult) {
	t.Helper()
	if !j.turn(t, what, got) {
		t.Fatalf("%s tells the code %d of %+v", what, got.Code, j.w)
	}
}

// troubledJourney begins with a path that is asked for, and has that trouble for so many steps.
func troubledJourney(t *testing.T, draw *rand.Rand, of trouble, steps int, did map[string]int) *journey {
	t.Helper()
	j := newJourney(draw, did)
	j.must(t, "dial", impl.DialWorld(j.w, draw.Int63n(3), draw.Int63n(1000001)))
	most := []int{2, 6, 15}[draw.Intn(3)]
	for range steps {
		j.step(t, draw, of, most)
	}
	return j
}

// Where nothing was killed, altered or stripped, and nothing more is lost, all comes there, each end with it.
func TestPromise16AllComesThere(t *testing.T) {
	did := map[string]int{}
	for round := range 1200 {
		draw := rand.New(rand.NewSource(int64(4000 + round)))
		of := trouble{loses: []int{0, 10, 40, 90}[round%4], copies: []int{0, 0, 10, 40}[round/4%4]}
		j := troubledJourney(t, draw, of, draw.Intn(200), did)
		for range round / 16 % 5 {
			j.write(t, draw.Int63n(2), lettersOf(draw.Intn(8)))
			j.must(t, "tick", impl.TickWorld(j.w))
			j.befall(t, draw, of)
		}
		if impl.RoundsFor(j.w).Value == impl.MaxRounds {
			did["too much"]++
			continue
		}
		switch {
		case impl.DoneWorld(j.w):
			did["there already"]++
		case len(impl.LivePaths(j.w).List) == 0:
			did["no path yet"]++
		case len(impl.LivePaths(j.w).List) > 1:
			did["several paths"]++
		}
		j.checkComes(t, "nothing more is lost")
		j.countSides()
	}
	checkCame(t, "nothing more is lost", did, map[string]int{"lose": 3000, "copy": 1000, "all there": 900, "no path yet": 50, "several paths": 100, "end": 200})
	if did["there already"] > did["all there"]/2 {
		t.Errorf("of %d worlds %d had all there already", did["all there"], did["there already"])
	}
}

// As much as may be written comes there in parts, each in the rounds that are told for it.
func TestPromise16AsMuchAsMayBeWritten(t *testing.T) {
	for paths := int64(1); paths <= 3; paths++ {
		draw := rand.New(rand.NewSource(4400 + paths))
		j := newJourney(draw, map[string]int{})
		for path := range paths {
			j.must(t, "dial", impl.DialWorld(j.w, path, 7))
			j.w = impl.RunWorld(j.w, 3).World
		}
		for len(j.wrote[0]) < 300 {
			for side := range int64(2) {
				data := make([]byte, min(1+draw.Intn(19), 300-len(j.wrote[side])))
				draw.Read(data)
				j.write(t, side, data)
			}
			for range 6 {
				j.befall(t, draw, trouble{loses: 50})
				j.must(t, "tick", impl.TickWorld(j.w))
			}
			j.checkComes(t, "a part")
			j.w = impl.SettleWorld(j.w, 200).World
		}
		j.end(t, 0)
		j.end(t, 1)
		j.checkComes(t, "both ends")
		if len(j.wrote[0]) != 300 || len(impl.LivePaths(j.w).List) != int(paths) {
			t.Errorf("%d bytes were written, over %v", len(j.wrote[0]), impl.LivePaths(j.w))
		}
	}
}

// Where one path of two that both sides have open is dead, all comes by the other one: what was written ahead and what is written behind.
func TestPromise16ByTheOtherPath(t *testing.T) {
	did := map[string]int{}
	for round := range 1500 {
		draw := rand.New(rand.NewSource(int64(6000 + round)))
		of := trouble{loses: []int{0, 10, 40}[round%3], copies: []int{0, 10}[round/3%2]}
		j := troubledJourney(t, draw, of, 40+draw.Intn(160), did)
		live := impl.LivePaths(j.w).List
		if len(live) != 2 {
			continue
		}
		for k, path := range live {
			h := *j
			h.must(t, "kill", impl.MeddleWorld(h.w, 5, path, 0, 0))
			if got := impl.LivePaths(h.w).List; !slices.Equal(got, live[1-k:2-k]) {
				t.Fatalf("of %v the path %d is dead, live are %v", live, path, got)
			}
			if round%2 == 0 {
				h.write(t, draw.Int63n(2), lettersOf(draw.Intn(10)))
				h.must(t, "round", impl.RoundWorld(h.w))
				h.end(t, draw.Int63n(2))
			}
			if impl.RoundsFor(h.w).Value == impl.MaxRounds {
				continue
			}
			if !impl.DoneWorld(h.w) {
				did[[]string{"the first is dead", "the second is dead"}[k]]++
			}
			h.checkComes(t, "by the other one")
		}
	}
	checkCame(t, "by the other one", did, map[string]int{"the first is dead": 100, "the second is dead": 100, "all there": 300, "lose": 500})
}

// What is on its way over a path that dies is sent again over the other one, and over no dead one.
func TestPromise16ByTheOtherPathAlone(t *testing.T) {
	for dead := range int64(2) {
		j := &journey{w: openWorld(0), did: map[string]int{}}
		j.must(t, "dial", impl.DialWorld(j.w, 1, 3))
		j.w = impl.RunWorld(j.w, 4).World
		j.write(t, 0, lettersOf(30))
		j.must(t, "tick", impl.TickWorld(j.w))
		var over [2]int
		for _, g := range j.w.Net.Bag {
			over[g.Path] += len(g.Load)
		}
		j.must(t, "kill", impl.MeddleWorld(j.w, 5, dead, 0, 0))
		if over[0] == 0 || over[1] == 0 || len(j.w.Net.Bag) == 0 {
			t.Fatalf("%v bytes were on their way: %+v", over, j.w)
		}
		j.checkComes(t, "the other one")
		for range 40 {
			if slices.ContainsFunc(j.w.Net.Bag, func(g impl.Segment) bool { return g.Path == dead }) {
				t.Fatalf("the dead path %d carries %+v", dead, j.w.Net)
			}
			j.must(t, "round", impl.RoundWorld(j.w))
		}
	}
}

// Where all options vanish from the beginning on, both sides are Plain in the end, and all comes there.
func TestPromise16AllOptionsVanish(t *testing.T) {
	did := map[string]int{}
	for round := range 500 {
		draw := rand.New(rand.NewSource(int64(8000 + round)))
		of := trouble{loses: []int{0, 10, 60}[round%3], copies: []int{0, 20}[round/3%2], stripsAll: true}
		j := newJourney(draw, did)
		j.must(t, "dial", impl.DialWorld(j.w, draw.Int63n(3), draw.Int63n(1000001)))
		for range 5 + draw.Intn(120) {
			j.step(t, draw, of, 5)
		}
		rounds := impl.RoundsFor(j.w).Value
		if rounds == impl.MaxRounds {
			did["too much"]++
			continue
		}
		if !impl.DoneWorld(j.w) {
			did["not there yet"]++
		}
		for range rounds {
			j.w = strippedAll(t, j.w)
			j.must(t, "round", impl.RoundWorld(j.w))
		}
		if impl.PlainOf(j.w).Value != 2 || !j.isAllThere(j.w) || len(j.w.Sides[0].Subs) != 1 {
			t.Fatalf("all options vanish, and %d rounds make %+v, written was %q, ended %v", rounds, j.w, j.wrote, j.fin)
		}
		j.check(t)
		j.countSides()
	}
	checkCame(t, "all options vanish", did, map[string]int{"not there yet": 150, "plain sides": 700, "ends told": 50, "lose": 300, "copy": 300})
}

// Rounds that are run in two parts are as if in one, whatever befell the world ahead.
func TestPromise16InTwoParts(t *testing.T) {
	did := map[string]int{}
	var worlds []impl.World
	for round, of := range []trouble{{}, {loses: 30}, {copies: 40, kills: 1}, {strips: 20}, {turns: 30, loses: 10}, {stripsAll: true}} {
		for k := range 20 {
			draw := rand.New(rand.NewSource(int64(9000 + 100*round + k)))
			worlds = append(worlds, troubledJourney(t, draw, of, 10+draw.Intn(100), did).w)
		}
	}
	draw := rand.New(rand.NewSource(9900))
	check := func(w impl.World, a int64, b int64) {
		t.Helper()
		first := impl.RunWorld(w, a)
		second, whole := impl.RunWorld(first.World, b), impl.RunWorld(w, a+b)
		if first.Code != impl.OK || second.Code != impl.OK || whole.Code != impl.OK || first.Rounds != a || second.Rounds != b || whole.Rounds != a+b || !sameWorld(second.World, whole.World) {
			t.Fatalf("%d rounds and then %d of %+v make %+v, %d make %+v", a, b, w, second, a+b, whole)
		}
	}
	for i, w := range worlds {
		for _, parts := range [][2]int64{{0, 0}, {0, 3}, {3, 0}, {1, 1}, {draw.Int63n(30), draw.Int63n(30)}} {
			check(w, parts[0], parts[1])
		}
		if i%10 == 0 {
			check(w, 77, 123)
			check(turned(w, func(w *impl.World) { w.Now = 99990 }), 4, 6)
		}
	}
}

// Promise 1, of the functions of the chapter.

// runsOf are calls that answer a world: what changes nothing, what changes much, and what tells a code.
func runsOf(w impl.World, _ []byte) map[string]func() impl.WorldResult {
	worldOfRun := func(run impl.RunResult) impl.WorldResult {
		return impl.WorldResult{Code: run.Code, World: run.World}
	}
	return map[string]func() impl.WorldResult{
		"RoundWorld":        func() impl.WorldResult { return impl.RoundWorld(w) },
		"RunWorld of -1":    func() impl.WorldResult { return worldOfRun(impl.RunWorld(w, -1)) },
		"RunWorld of 0":     func() impl.WorldResult { return worldOfRun(impl.RunWorld(w, 0)) },
		"RunWorld of 1":     func() impl.WorldResult { return worldOfRun(impl.RunWorld(w, 1)) },
		"RunWorld of 4":     func() impl.WorldResult { return worldOfRun(impl.RunWorld(w, 4)) },
		"SettleWorld of -1": func() impl.WorldResult { return worldOfRun(impl.SettleWorld(w, -1)) },
		"SettleWorld of 0":  func() impl.WorldResult { return worldOfRun(impl.SettleWorld(w, 0)) },
		"SettleWorld of 1":  func() impl.WorldResult { return worldOfRun(impl.SettleWorld(w, 1)) },
		"SettleWorld of 5":  func() impl.WorldResult { return worldOfRun(impl.SettleWorld(w, 5)) },
		"ReadAll":           func() impl.WorldResult { return impl.ReadAll(w) },
	}
}

// runWorlds are of each kind, with faults and without, with lists that are one memory, and settled ones.
func runWorlds() (out []impl.World) {
	for i, w := range slices.Concat(someWorlds(), auditedWorlds()) {
		if i%4 == 0 {
			out = append(out, w)
		}
	}
	return append(out, unsettled()[""], calmWorld(true), openWorld(1), impl.NewWorld(5, 7).World)
}

func TestPromise1RunsChangeNothing(t *testing.T) {
	worlds := slices.Concat(runWorlds(), sharingWorlds())
	checkNothingChanged(t, runsOf, worlds)
	for _, w := range worlds {
		k := keepWorld(w, nil)
		impl.LivePaths(k.w)
		impl.RoundsFor(k.w)
		k.check(t, "what is told of a world")
	}
}

func TestPromise1RunsAreNewMemory(t *testing.T) {
	checkNewMemory(t, runsOf, runWorlds())
	for _, w := range runWorlds() {
		k := keepWorld(w, nil)
		paths := impl.LivePaths(k.w)
		was := slices.Clone(paths.List)
		for i := range paths.List[:cap(paths.List)] {
			paths.List[:cap(paths.List)][i] = 71
		}
		k.check(t, "LivePaths that were written over")
		if again := impl.LivePaths(k.w); !slices.Equal(again.List, was) {
			t.Fatalf("LivePaths that were written over are told again: %+v, were %v", again, was)
		}
	}
}

func TestPromise1RunsStayWhereArgumentsTurn(t *testing.T) {
	checkStay(t, runsOf, runWorlds())
}

func TestPromise1ListsOfOneRunAreApart(t *testing.T) {
	for _, w := range slices.Concat(sharingWorlds(), rightWorlds(20, 1510), []impl.World{calmWorld(false), readingWorld(0, 6, false)}) {
		for name, call := range runsOf(w, nil) {
			checkWorldApart(t, name, call)
		}
	}
}

func TestPromise1RunsSameArgumentsSameAnswers(t *testing.T) {
	checkSameAgain(t, runsOf, runWorlds())
}

func TestPromise1EmptyRunsAndNil(t *testing.T) {
	checkEmptyAndNil(t, runsOf, runWorlds())
	for _, w := range runWorlds() {
		a, b := emptiedWorld(w, true), emptiedWorld(w, false)
		if !sameInts(impl.LivePaths(a), impl.LivePaths(b)) || impl.RoundsFor(a) != impl.RoundsFor(b) {
			t.Fatalf("what is told of %+v tells nil and an empty list apart", w)
		}
	}
}

// Every function answers at every argument, and with a code all else is zero.
func TestPromise1RunsAnswerEverywhere(t *testing.T) {
	checkAll := func(w impl.World) {
		t.Helper()
		fault := worldFaultModel(w)
		for _, rounds := range []int64{math.MinInt64, -1, 0, 2, 200, 201, math.MaxInt64} {
			// Hundreds of rounds of each world would take too long, and lead to no other answer.
			if rounds == 200 && fault == impl.OK {
				continue
			}
			for _, run := range []impl.RunResult{impl.RunWorld(w, rounds), impl.SettleWorld(w, rounds)} {
				if run.Code != runCodeModel(w, rounds) || run.Code != impl.OK && !sameRun(run, impl.RunResult{Code: run.Code}) || run.Code == impl.OK && impl.WorldFault(run.World) != impl.OK {
					t.Fatalf("%d rounds of %+v make %+v", rounds, w, run)
				}
			}
		}
		for name, got := range map[string]impl.WorldResult{"RoundWorld": impl.RoundWorld(w), "ReadAll": impl.ReadAll(w)} {
			isLast := name == "RoundWorld" && w.Now == 100000
			if want := map[bool]int64{false: fault, true: impl.ErrRange}[isLast && fault == impl.OK]; got.Code != want || want != impl.OK && !sameWorlds(got, impl.WorldResult{Code: want}) || want == impl.OK && impl.WorldFault(got.World) != impl.OK {
				t.Fatalf("%s of %+v = %+v", name, w, got)
			}
		}
		if live, rounds := impl.LivePaths(w), impl.RoundsFor(w); !sameInts(live, livePathsModel(w)) || rounds != roundsForModel(w) {
			t.Fatalf("of %+v: %+v, %+v", w, live, rounds)
		}
	}
	for _, w := range runWorlds() {
		checkAll(w)
	}
	base := plainWorld()
	for i, c := range append(wrongConns(), impl.Conn{Side: math.MinInt64, Given: math.MaxInt64, FinIn: math.MinInt64, Acked: math.MinInt64}) {
		checkAll(turned(base, func(w *impl.World) { w.Sides[i%2] = c }))
	}
}
