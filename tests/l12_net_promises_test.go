package tests

import (
	"bytes"
	"math"
	"math/rand"
	"slices"
	"testing"

	"loop.example/g00230/impl"
)

// Promise 13: what is put into a net is there as often as it was put and copied, as long as there is room, and a dead path carries nothing.

// ledger counts for itself what a net must hold: segments are known by their Seq, and only counted.
type ledger struct {
	n      impl.Net
	order  []int64
	came   map[int64]int
	went   map[int64]int
	pathOf map[int64]int64
	dead   map[int64]bool
	next   int64
	count  map[string]int
}

func newLedger(t *testing.T, dead []bool) *ledger {
	t.Helper()
	made := impl.NewNet(dead)
	if made.Code != impl.OK {
		t.Fatalf("NewNet(%v) = %+v", dead, made)
	}
	l := ledger{n: made.Net, came: map[int64]int{}, went: map[int64]int{}, pathOf: map[int64]int64{}, dead: map[int64]bool{}, count: map[string]int{}}
	for path, is := range dead {
		l.dead[int64(path)] = is
	}
	return &l
}

// turn takes over what a call made of the net.
func (l *ledger) turn(t *testing.T, what string, got impl.NetResult) {
	t.Helper()
	if got.Code != impl.OK {
		t.Fatalf("%s of %+v tells %d", what, l.n, got.Code)
	}
	l.n = got.Net
	l.count[what]++
}

// put puts so many segments, some of them twice in one list.
func (l *ledger) put(t *testing.T, draw *rand.Rand, size int) {
	t.Helper()
	var list []impl.Segment
	for range size {
		g := rightDrawn(draw)
		if len(list) > 0 && draw.Intn(5) == 0 {
			g = list[draw.Intn(len(list))]
		} else {
			g.Seq = l.next
			l.pathOf[g.Seq] = g.Path
			l.next++
		}
		list = append(list, g)
	}
	for _, g := range list {
		switch {
		case l.dead[g.Path]:
			l.count["lost of a dead path"]++
		case len(l.order) == 60:
			l.count["lost for room"]++
		default:
			l.order = append(l.order, g.Seq)
			l.came[g.Seq]++
		}
	}
	l.turn(t, "put", impl.PutNet(l.n, list))
}

func rightDrawn(draw *rand.Rand) impl.Segment {
	g := impl.Segment{Path: draw.Int63n(3), From: draw.Int63n(2), Ackd: draw.Intn(2) == 0, Ack: draw.Int63n(65536), End: draw.Int63n(1001)}
	if g.Opt = draw.Int63n(5); g.Opt != impl.OptNone {
		g.A, g.B = draw.Int63n(1000001), draw.Int63n(1000001)
	}
	g.Load = make([]byte, draw.Intn(9))
	draw.Read(g.Load)
	return g
}

func (l *ledger) take(t *testing.T, at int) {
	t.Helper()
	was := l.n
	got := impl.TakeNet(l.n, int64(at))
	l.turn(t, "take", got)
	if !sameFields(got.Segment, was.Bag[at]) {
		t.Fatalf("taken at %d is %+v, there was %+v", at, got.Segment, was.Bag[at])
	}
	l.went[l.order[at]]++
	l.order = slices.Delete(l.order, at, at+1)
}

func (l *ledger) copy(t *testing.T, at int) {
	t.Helper()
	if len(l.order) == 60 {
		if got := impl.CopyNet(l.n, int64(at)); !sameNets(got, impl.NetResult{Code: impl.ErrMany}) {
			t.Fatalf("CopyNet without room = %+v", got)
		}
		l.count["no room to copy"]++
		return
	}
	was := l.n.Bag[at]
	l.turn(t, "copy", impl.CopyNet(l.n, int64(at)))
	if last := l.n.Bag[len(l.n.Bag)-1]; !sameFields(last, was) {
		t.Fatalf("copied is %+v, there was %+v", last, was)
	}
	l.came[l.order[at]]++
	l.order = append(l.order, l.order[at])
}

func (l *ledger) kill(t *testing.T, path int64) {
	t.Helper()
	l.turn(t, "kill", impl.KillPath(l.n, path))
	l.dead[path] = true
	for _, seq := range l.order {
		if l.pathOf[seq] == path {
			l.went[seq]++
		}
	}
	l.order = slices.DeleteFunc(l.order, func(seq int64) bool { return l.pathOf[seq] == path })
}

// turnOne strips or alters one, which takes none away and adds none.
func (l *ledger) turnOne(t *testing.T, draw *rand.Rand, at int) {
	t.Helper()
	was := cloneNet(l.n)
	if draw.Intn(2) == 0 {
		l.turn(t, "strip", impl.StripNet(l.n, int64(at)))
		checkStripped(t, was, int64(at), l.n)
		return
	}
	if load := l.n.Bag[at].Load; len(load) > 0 {
		place, mask := draw.Int63n(int64(len(load))), 1+draw.Int63n(255)
		l.turn(t, "alter", impl.AlterNet(l.n, int64(at), place, mask))
		checkAltered(t, was, int64(at), place, mask, l.n)
	}
}

// check counts what is there, and looks at the order and at what is dead.
func (l *ledger) check(t *testing.T) {
	t.Helper()
	if fault := impl.NetFault(l.n); fault != impl.OK {
		t.Fatalf("%+v has the fault %d", l.n, fault)
	}
	there := map[int64]int{}
	for i, g := range l.n.Bag {
		there[g.Seq]++
		if i >= len(l.order) || l.order[i] != g.Seq || g.Path != l.pathOf[g.Seq] || l.dead[g.Path] {
			t.Fatalf("at %d there is %+v, the order is %v", i, g, l.order)
		}
	}
	for seq := range l.next {
		if there[seq] != l.came[seq]-l.went[seq] {
			t.Fatalf("%d is there %d times, it came %d times and went %d times", seq, there[seq], l.came[seq], l.went[seq])
		}
	}
	for path, is := range l.n.Dead {
		if is != l.dead[int64(path)] {
			t.Fatalf("dead are %v, were to be %v", l.n.Dead, l.dead)
		}
	}
}

func TestPromise13ThereAsOftenAsItWasPut(t *testing.T) {
	draw := rand.New(rand.NewSource(13))
	count := map[string]int{}
	for run := range 200 {
		l := newLedger(t, deadMarks(draw.Intn(8)&draw.Intn(8)))
		for range 100 {
			size := len(l.order)
			switch what := draw.Intn(20); {
			case what < 6 || size == 0:
				l.put(t, draw, draw.Intn(2+run%20))
			case what < 11:
				l.take(t, draw.Intn(size))
			case what < 15:
				l.copy(t, draw.Intn(size))
			case what < 19:
				l.turnOne(t, draw, draw.Intn(size))
			case draw.Intn(5) == 0:
				l.kill(t, draw.Int63n(3))
			}
			l.check(t)
		}
		for what, n := range l.count {
			count[what] += n
		}
	}
	for _, what := range []string{"put", "take", "copy", "strip", "alter", "kill", "lost of a dead path", "lost for room", "no room to copy"} {
		if count[what] < 60 {
			t.Errorf("%s came only %d times", what, count[what])
		}
	}
}

// From no segments to one more than there may be, over each set of dead paths.
func TestPromise13Room(t *testing.T) {
	for bits := range 8 {
		dead := deadMarks(bits)
		for start := 0; start <= 60; start += 12 {
			for size := 0; size <= 62; size++ {
				checkBagRoom(t, dead, start, size)
			}
		}
	}
}

// checkBagRoom puts into a bag of so many segments, if a path is left for them, so many others of all paths.
func checkBagRoom(t *testing.T, dead []bool, start int, size int) {
	t.Helper()
	n := netWith(dead)
	if living := livingPaths(dead); len(living) > 0 {
		n.Bag = manySegmentsOn(start, living...)
	}
	list := manySegmentsOn(size, 1, 2, 0)
	got := impl.PutNet(n, list)
	if got.Code != impl.OK || impl.NetFault(got.Net) != impl.OK || len(got.Net.Bag) < len(n.Bag) || !sameList(got.Net.Bag[:len(n.Bag)], n.Bag) || !slices.Equal(got.Net.Dead, dead) {
		t.Fatalf("PutNet(%+v, %+v) = %+v", n, list, got)
	}
	rest := got.Net.Bag[len(n.Bag):]
	for _, g := range list {
		if dead[g.Path] {
			continue
		}
		if len(rest) == 0 {
			if len(got.Net.Bag) != 60 {
				t.Fatalf("%+v is lost, and there is room: %+v", g, got.Net)
			}
			return
		}
		if !sameFields(rest[0], g) {
			t.Fatalf("%+v stands where %+v was put", rest[0], g)
		}
		rest = rest[1:]
	}
	if len(rest) != 0 {
		t.Fatalf("%+v were never put", rest)
	}
}

// What is put in several lists is there as if it were put in one.
func TestPromise13PutInParts(t *testing.T) {
	for _, n := range slices.Concat(rightNets(), drawnNets(60, 131)) {
		list := manySegmentsOn(9, 2, 1, 0)
		whole := impl.PutNet(n, list)
		for cut := range list {
			part := impl.PutNet(impl.PutNet(n, list[:cut]).Net, list[cut:])
			if !sameNets(part, whole) {
				t.Fatalf("put into %+v in parts of %d: %+v, at once %+v", n, cut, part, whole)
			}
		}
	}
}

// What is taken is gone, and only that; all of them, taken one by one, are what was put.
func TestPromise13TakenIsGone(t *testing.T) {
	draw := rand.New(rand.NewSource(132))
	for _, n := range slices.Concat(rightNets(), drawnNets(60, 133)) {
		left, was := n, cloneList(n.Bag)
		for len(was) > 0 {
			at := draw.Intn(len(was))
			got := impl.TakeNet(left, int64(at))
			if got.Code != impl.OK || impl.NetFault(got.Net) != impl.OK || !sameFields(got.Segment, was[at]) {
				t.Fatalf("TakeNet(%+v, %d) = %+v", left, at, got)
			}
			was = slices.Delete(was, at, at+1)
			if !sameNet(got.Net, netWith(n.Dead, was...)) {
				t.Fatalf("TakeNet(%+v, %d) leaves %+v", left, at, got.Net)
			}
			left = got.Net
		}
		if got := impl.TakeNet(left, 0); !sameNets(got, impl.NetResult{Code: impl.ErrNone}) {
			t.Fatalf("TakeNet of nothing = %+v", got)
		}
	}
}

// Who copies one and takes the copy has what was.
func TestPromise13CopiedAndTaken(t *testing.T) {
	for _, n := range slices.Concat(rightNets(), drawnNets(60, 134)) {
		for at := range n.Bag {
			if len(n.Bag) == 60 {
				continue
			}
			copied := impl.CopyNet(n, int64(at))
			if copied.Code != impl.OK || impl.NetFault(copied.Net) != impl.OK || !sameFields(copied.Segment, impl.Segment{}) {
				t.Fatalf("CopyNet(%+v, %d) = %+v", n, at, copied)
			}
			back := impl.TakeNet(copied.Net, int64(len(n.Bag)))
			if !sameNets(back, impl.NetResult{Segment: n.Bag[at], Net: n}) {
				t.Fatalf("the copy at %d of %+v is %+v", at, n, back)
			}
		}
	}
}

func TestPromise13KilledCarriesNothing(t *testing.T) {
	gone := 0
	for _, n := range slices.Concat(rightNets(), drawnNets(100, 135)) {
		for path := range int64(3) {
			got := impl.KillPath(n, path)
			isOn := func(g impl.Segment) bool { return g.Path == path }
			if got.Code != impl.OK || impl.NetFault(got.Net) != impl.OK || slices.ContainsFunc(got.Net.Bag, isOn) || !got.Net.Dead[path] {
				t.Fatalf("KillPath(%+v, %d) = %+v", n, path, got)
			}
			if !sameList(got.Net.Bag, slices.DeleteFunc(cloneList(n.Bag), isOn)) {
				t.Fatalf("KillPath(%+v, %d) leaves %+v", n, path, got.Net)
			}
			for other := range int64(3) {
				if other != path && got.Net.Dead[other] != n.Dead[other] {
					t.Fatalf("KillPath(%+v, %d) turns the path %d", n, path, other)
				}
			}
			gone += len(n.Bag) - len(got.Net.Bag)
			more := impl.PutNet(got.Net, manySegmentsOn(70, path))
			if !sameNets(more, impl.NetResult{Net: got.Net}) {
				t.Fatalf("%+v takes segments of the path %d: %+v", got.Net, path, more)
			}
			both := impl.PutNet(got.Net, manySegmentsOn(9, 0, 1, 2))
			if both.Code != impl.OK || slices.ContainsFunc(both.Net.Bag, isOn) {
				t.Fatalf("%+v takes a segment of the path %d: %+v", got.Net, path, both)
			}
			if again := impl.KillPath(got.Net, path); !sameNets(again, got) {
				t.Fatalf("killed twice %+v is %+v", got.Net, again)
			}
		}
	}
	if gone < 500 {
		t.Errorf("only %d segments went", gone)
	}
}

// checkStripped leans on StripSegment, which has tests of its own.
func checkStripped(t *testing.T, was impl.Net, at int64, got impl.Net) {
	t.Helper()
	if impl.NetFault(got) != impl.OK || len(got.Bag) != len(was.Bag) || !slices.Equal(got.Dead, was.Dead) {
		t.Fatalf("%+v stripped at %d is %+v", was, at, got)
	}
	for i, g := range was.Bag {
		if int64(i) == at {
			g = impl.StripSegment(g)
		}
		if !sameFields(got.Bag[i], g) {
			t.Fatalf("%+v stripped at %d has %+v at %d", was, at, got.Bag[i], i)
		}
	}
}

// checkAltered looks at each bit of each byte of the load.
func checkAltered(t *testing.T, was impl.Net, at int64, place int64, mask int64, got impl.Net) {
	t.Helper()
	if impl.NetFault(got) != impl.OK || len(got.Bag) != len(was.Bag) || !slices.Equal(got.Dead, was.Dead) {
		t.Fatalf("%+v altered at %d, %d by %d is %+v", was, at, place, mask, got)
	}
	for i, g := range was.Bag {
		other := got.Bag[i]
		if int64(i) == at {
			for k := range g.Load {
				for b := range 8 {
					turns := int64(k) == place && mask>>b&1 == 1
					if isOther := (g.Load[k]^other.Load[k])>>b&1 == 1; isOther != turns {
						t.Fatalf("%v altered at %d by %d is %v", g.Load, place, mask, other.Load)
					}
				}
			}
			g.Load = other.Load
		}
		if !sameFields(other, g) {
			t.Fatalf("%+v altered at %d has %+v at %d", was, at, other, i)
		}
	}
}

func TestPromise13StrippedAtItsPlace(t *testing.T) {
	for _, n := range slices.Concat(rightNets(), drawnNets(60, 136)) {
		for at := range int64(len(n.Bag)) {
			got := impl.StripNet(n, at)
			if got.Code != impl.OK || !sameFields(got.Segment, impl.Segment{}) {
				t.Fatalf("StripNet(%+v, %d) = %+v", n, at, got)
			}
			checkStripped(t, n, at, got.Net)
			if again := impl.StripNet(got.Net, at); !sameNets(again, got) {
				t.Fatalf("stripped twice is %+v, once %+v", again, got)
			}
		}
	}
}

// Every place of every load, and every mask of one net; twice the same makes what was.
func TestPromise13AlteredTwice(t *testing.T) {
	check := func(n impl.Net, at int64, place int64, mask int64) {
		once := impl.AlterNet(n, at, place, mask)
		if once.Code != impl.OK || !sameFields(once.Segment, impl.Segment{}) {
			t.Fatalf("AlterNet(%+v, %d, %d, %d) = %+v", n, at, place, mask, once)
		}
		checkAltered(t, n, at, place, mask, once.Net)
		if twice := impl.AlterNet(once.Net, at, place, mask); !sameNets(twice, impl.NetResult{Net: n}) {
			t.Fatalf("altered twice %+v is %+v", n, twice)
		}
	}
	for i, n := range slices.Concat(rightNets(), drawnNets(60, 137)) {
		for at, g := range n.Bag {
			for place := range int64(len(g.Load)) {
				check(n, int64(at), place, 1+(int64(i)*31+place*17+int64(at))%255)
			}
		}
	}
	n := netWith(deadMarks(1), impl.Segment{Path: 1}, impl.Segment{Path: 2, Opt: impl.OptMap, B: 9, Load: []byte{0, 255, 7, 8, 9, 10, 200, 100}})
	for place := range int64(8) {
		for mask := int64(1); mask <= 255; mask++ {
			check(n, 1, place, mask)
		}
	}
}

// Promise 1, of the functions of the chapter.

// keptNet is a net, and a list to put, with room behind their lists, and a copy of all of it.
type keptNet struct {
	n                impl.Net
	list             []impl.Segment
	bag, put         []impl.Segment
	keptBag, keptPut []impl.Segment
	dead, keptDead   []bool
	loads, keptLoads [][]byte
}

func (k *keptNet) keepList(list []impl.Segment) []impl.Segment {
	var out []impl.Segment
	for _, g := range append(slices.Clone(list), impl.Segment{Seq: 71, Load: []byte("room")}, impl.Segment{Path: 2, Seq: 72}, impl.Segment{Seq: 73}) {
		back, load := roomy(g.Load)
		g.Load = load
		k.loads, k.keptLoads = append(k.loads, back), append(k.keptLoads, slices.Clone(back))
		out = append(out, g)
	}
	return out
}

func keepNet(n impl.Net, list []impl.Segment) *keptNet {
	var k keptNet
	k.bag, k.put = k.keepList(n.Bag), k.keepList(list)
	k.dead = append(slices.Clone(n.Dead), true, false, true)
	k.keptBag, k.keptPut, k.keptDead = cloneList(k.bag), cloneList(k.put), slices.Clone(k.dead)
	k.n = impl.Net{Bag: k.bag[:len(n.Bag)], Dead: k.dead[:len(n.Dead)]}
	k.list = k.put[:len(list)]
	return &k
}

func (k *keptNet) check(t *testing.T, what string) {
	t.Helper()
	if !sameList(k.bag, k.keptBag) || !sameList(k.put, k.keptPut) || !slices.Equal(k.dead, k.keptDead) || !slices.EqualFunc(k.loads, k.keptLoads, bytes.Equal) {
		t.Fatalf("%s: %+v or %+v are changed, were %+v and %+v", what, k.n, k.list, k.keptBag, k.keptPut)
	}
}

// spoilAll writes over all that came in.
func (k *keptNet) spoilAll() {
	for _, load := range k.loads {
		spoil(load)
	}
	clear(k.bag)
	clear(k.put)
	for i := range k.dead {
		k.dead[i] = !k.dead[i]
	}
}

// spoilNets writes over all lists of an answer, and over the room behind them.
func spoilNets(r impl.NetResult) {
	spoil(r.Segment.Load)
	bag, dead := r.Net.Bag[:cap(r.Net.Bag)], r.Net.Dead[:cap(r.Net.Dead)]
	for i := range bag {
		spoil(bag[i].Load)
		bag[i] = impl.Segment{Path: -7}
	}
	for i := range dead {
		dead[i] = !dead[i]
	}
}

// netsOf are calls that answer a net: what changes nothing, what changes much, and what tells a code.
func netsOf(n impl.Net, list []impl.Segment) map[string]func() impl.NetResult {
	last := int64(len(n.Bag)) - 1
	calls := map[string]func() impl.NetResult{
		"NewNet": func() impl.NetResult { return impl.NewNet(n.Dead) },
		"PutNet": func() impl.NetResult { return impl.PutNet(n, list) },
		"PutNet of its own Bag": func() impl.NetResult {
			return impl.PutNet(n, n.Bag)
		},
		"PutNet of nothing": func() impl.NetResult { return impl.PutNet(n, nil) },
		"KillPath 0":        func() impl.NetResult { return impl.KillPath(n, 0) },
		"KillPath 1":        func() impl.NetResult { return impl.KillPath(n, 1) },
		"KillPath 2":        func() impl.NetResult { return impl.KillPath(n, 2) },
		"KillPath 3":        func() impl.NetResult { return impl.KillPath(n, 3) },
	}
	for name, at := range map[string]int64{"the first": 0, "one between": last / 2, "the last": last, "none": last + 1} {
		calls["TakeNet, "+name] = func() impl.NetResult { return impl.TakeNet(n, at) }
		calls["CopyNet, "+name] = func() impl.NetResult { return impl.CopyNet(n, at) }
		calls["StripNet, "+name] = func() impl.NetResult { return impl.StripNet(n, at) }
		calls["AlterNet, "+name] = func() impl.NetResult { return impl.AlterNet(n, at, 0, 129) }
		calls["AlterNet by nothing, "+name] = func() impl.NetResult { return impl.AlterNet(n, at, 0, 0) }
	}
	return calls
}

// someLists are what is put beside the nets of these tests.
func someLists() [][]impl.Segment {
	return [][]impl.Segment{nil, manySegmentsOn(5, 0, 1, 2), append(plainSegments(), impl.Segment{Path: 3, Load: lettersOf(12)})}
}

func TestPromise1NetsAreNotChanged(t *testing.T) {
	for _, n := range everyNet() {
		for _, list := range someLists() {
			k := keepNet(n, list)
			impl.NetFault(k.n)
			for name, call := range netsOf(k.n, k.list) {
				call()
				k.check(t, name)
			}
		}
	}
}

func TestPromise1NetsAreNewMemory(t *testing.T) {
	for _, n := range everyNet() {
		for _, list := range someLists() {
			k := keepNet(n, list)
			for name, call := range netsOf(k.n, k.list) {
				got := call()
				was := cloneNets(got)
				spoilNets(got)
				k.check(t, name+" was written over")
				if again := call(); !sameNets(again, was) {
					t.Fatalf("%s that was written over is told again: %+v, was %+v", name, again, was)
				}
			}
		}
	}
}

// The other way round: an answer stays as it is where an argument is written over.
func TestPromise1NetsStayWhereArgumentsTurn(t *testing.T) {
	for _, n := range everyNet() {
		for _, list := range someLists() {
			for name := range netsOf(n, list) {
				k := keepNet(n, list)
				got := netsOf(k.n, k.list)[name]()
				was := cloneNets(got)
				k.spoilAll()
				if !sameNets(got, was) {
					t.Fatalf("%s of %+v turns with its arguments: %+v, was %+v", name, n, got, was)
				}
			}
		}
	}
}

// No two Loads of one answer share memory: a copy beside what it is of, or the segment that is told beside the net.
func TestPromise1LoadsOfOneNetAreApart(t *testing.T) {
	for _, n := range slices.Concat(rightNets(), drawnNets(60, 138)) {
		for name, call := range netsOf(n, manySegmentsOn(9, 0, 1, 2)) {
			got := call()
			lists := [][]byte{got.Segment.Load}
			for _, g := range got.Net.Bag {
				lists = append(lists, g.Load)
			}
			for i, list := range lists {
				for k := range list[:cap(list)] {
					list[:cap(list)][k] = byte(i)
				}
			}
			for i, list := range lists {
				if !bytes.Equal(list[:cap(list)], bytes.Repeat([]byte{byte(i)}, cap(list))) {
					t.Fatalf("%s: the load %d shares memory with another one", name, i)
				}
			}
		}
	}
}

// A segment that was put twice in one list, or is in the Bag and in the list, is there twice, each with a Load of its own.
func TestPromise1TheSameLoadPutTwice(t *testing.T) {
	load := []byte("abc")
	g := impl.Segment{Load: load}
	got := impl.PutNet(netWith(deadMarks(0), g, g), []impl.Segment{g, g})
	got.Net.Bag[1].Load[0] = 'x'
	got.Net.Bag[3].Load[0] = 'y'
	if string(load) != "abc" || string(got.Net.Bag[0].Load) != "abc" || string(got.Net.Bag[2].Load) != "abc" {
		t.Errorf("Loads are shared: %s, %+v", load, got)
	}
}

func TestPromise1NetsSameArgumentsSameAnswers(t *testing.T) {
	nets, lists := everyNet(), someLists()
	var first []map[string]impl.NetResult
	for i, n := range nets {
		row := map[string]impl.NetResult{}
		for name, call := range netsOf(n, lists[i%len(lists)]) {
			row[name] = call()
			spoilNets(call())
		}
		first = append(first, row)
	}
	for range 3 {
		for i := len(nets) - 1; i >= 0; i-- {
			for name, call := range netsOf(nets[i], lists[i%len(lists)]) {
				if again := call(); !sameNets(again, first[i][name]) {
					t.Fatalf("%s of %+v = %+v, then %+v", name, nets[i], first[i][name], again)
				}
			}
		}
	}
}

func emptiedList(list []impl.Segment, isNil bool) []impl.Segment {
	if len(list) == 0 {
		return emptyOr[impl.Segment](isNil)
	}
	out := cloneList(list)
	for i := range out {
		if len(out[i].Load) == 0 {
			out[i].Load = emptyOr[byte](isNil)
		}
	}
	return out
}

func emptiedNet(n impl.Net, isNil bool) impl.Net {
	out := impl.Net{Bag: emptiedList(n.Bag, isNil), Dead: n.Dead}
	if len(n.Dead) == 0 {
		out.Dead = emptyOr[bool](isNil)
	}
	return out
}

// nil and an empty list are the same value, wherever a list comes in.
func TestPromise1EmptyNetsAndNil(t *testing.T) {
	for _, n := range everyNet() {
		for _, list := range someLists() {
			a, b := emptiedNet(n, true), emptiedNet(n, false)
			if impl.NetFault(a) != impl.NetFault(b) {
				t.Fatalf("%+v and %+v are told apart", a, b)
			}
			others := netsOf(b, emptiedList(list, false))
			for name, call := range netsOf(a, emptiedList(list, true)) {
				if x, y := call(), others[name](); !sameNets(x, y) {
					t.Fatalf("%s of %+v tells nil and an empty list apart: %+v, %+v", name, n, x, y)
				}
			}
		}
	}
}

// Every function answers at every argument, one wrong beside another, and with a code all else is zero.
func TestPromise1NetsAnswerEverywhere(t *testing.T) {
	check := func(what string, got impl.NetResult) {
		if got.Code != impl.OK && !sameNets(got, impl.NetResult{Code: got.Code}) || got.Code == impl.OK && impl.NetFault(got.Net) != impl.OK {
			t.Fatalf("%s = %+v", what, got)
		}
	}
	numbers := []int64{math.MinInt64, math.MinInt64 + 1, -1 << 32, -1, 0, 1, 2, 3, 59, 60, 61, 255, 256, 1 << 32, math.MaxInt64 - 1, math.MaxInt64}
	segments := manySegments()
	for i, n := range everyNet() {
		for k, at := range numbers {
			check("TakeNet", impl.TakeNet(n, at))
			check("CopyNet", impl.CopyNet(n, at))
			check("StripNet", impl.StripNet(n, at))
			check("KillPath", impl.KillPath(n, at))
			for _, place := range numbers {
				check("AlterNet", impl.AlterNet(n, at, place, numbers[(i+k)%len(numbers)]))
				check("AlterNet", impl.AlterNet(n, numbers[(i+k)%len(numbers)], at, place))
				check("AlterNet", impl.AlterNet(n, 0, at, place))
			}
			from := (i*len(numbers) + k) * 3 % (len(segments) - 3)
			check("PutNet", impl.PutNet(n, segments[from:from+3]))
		}
	}
	for i, g := range segments {
		n := netWith(deadMarks(i%8), g)
		check("TakeNet", impl.TakeNet(n, 0))
		check("CopyNet", impl.CopyNet(n, 0))
		check("StripNet", impl.StripNet(n, 0))
		check("AlterNet", impl.AlterNet(n, 0, 0, 1))
		check("KillPath", impl.KillPath(n, int64(i%3)))
		check("PutNet", impl.PutNet(impl.Net{Dead: deadMarks(i % 8)}, n.Bag))
	}
	for count := range 70 {
		check("NewNet", impl.NewNet(make([]bool, count)))
	}
}
