package tests

import (
	"math/rand"
	"slices"
	"testing"

	"loop.example/g00230/impl"
)

func seenAt(c impl.Catch, place int64) bool {
	in := func(s impl.Span) bool { return s.From <= place && place < s.To }
	return 0 <= place && place < c.Next || slices.ContainsFunc(c.Spans, in)
}

// placesNear are all places at which two catches or what is taken may differ: those beside a bound of any of them, and all that are taken.
func placesNear(a impl.Catch, b impl.Catch, at int64, size int64) []int64 {
	bounds := []int64{0, a.Next, b.Next, at, at + size}
	for _, s := range slices.Concat(a.Spans, b.Spans) {
		bounds = append(bounds, s.From, s.To)
	}
	var places []int64
	for _, bound := range bounds {
		places = append(places, bound-1, bound, bound+1)
	}
	for place := at; place < at+size; place++ {
		places = append(places, place)
	}
	return places
}

// checkTaken holds what is taken of a catch without a fault against the promise, and answers the catch that it makes.
func checkTaken(t *testing.T, c impl.Catch, at int64, size int64) impl.Catch {
	t.Helper()
	got := impl.TakeSpan(c, at, size)
	if got.Code != impl.OK {
		t.Fatalf("TakeSpan(%+v, %d, %d) = %+v", c, at, size, got)
	}
	made := got.Catch
	if impl.CatchFault(made) != impl.OK || catchFaultModel(made) != impl.OK || made.Start != c.Start || made.Next < c.Next {
		t.Fatalf("TakeSpan(%+v, %d, %d) makes %+v, with the fault %d", c, at, size, made, impl.CatchFault(made))
	}
	fresh := int64(0)
	for place := at; place < at+size; place++ {
		if !seenAt(c, place) {
			fresh++
		}
	}
	for _, place := range placesNear(c, made, at, size) {
		isTaken := at <= place && place < at+size
		if seenAt(made, place) != (seenAt(c, place) || isTaken) {
			t.Fatalf("TakeSpan(%+v, %d, %d) makes %+v: the place %d is not right", c, at, size, made, place)
		}
	}
	if got.Fresh != (fresh > 0) || seenAt(made, made.Next) {
		t.Fatalf("TakeSpan(%+v, %d, %d) = %+v, %d were fresh", c, at, size, got, fresh)
	}
	before, after := impl.CaughtOf(c), impl.CaughtOf(made)
	if before.Code != impl.OK || after != (impl.IntResult{Value: before.Value + fresh}) {
		t.Fatalf("CaughtOf of %+v is %+v, of %+v then %+v, %d were fresh", c, before, made, after, fresh)
	}
	checkKnown(t, made)
	if again := impl.TakeSpan(made, at, size); !sameTaken(again, impl.CatchResult{Catch: made}) {
		t.Fatalf("TakeSpan(%+v, %d, %d) once more = %+v", made, at, size, again)
	}
	return made
}

// checkKnown: what is told of a catch is found again as the place that is next.
func checkKnown(t *testing.T, c impl.Catch) {
	t.Helper()
	ack := impl.AckOf(c)
	if ack.Code != impl.OK || ack.Value < 0 || ack.Value > 65535 {
		t.Fatalf("AckOf(%+v) = %+v", c, ack)
	}
	if place := impl.PlaceOfSeq(c, ack.Value); place != (impl.IntResult{Value: c.Next}) {
		t.Fatalf("PlaceOfSeq of the ack %d of %+v = %+v", ack.Value, c, place)
	}
}

func TestPromise8StartedCatches(t *testing.T) {
	for start := int64(0); start < 65536; start += 1 + start/97 {
		got := impl.StartCatch(start)
		if got.Code != impl.OK || got.Fresh || impl.CatchFault(got.Catch) != impl.OK || impl.CaughtOf(got.Catch) != (impl.IntResult{}) || seenAt(got.Catch, 0) {
			t.Fatalf("StartCatch(%d) = %+v", start, got)
		}
		checkKnown(t, got.Catch)
		if impl.AckOf(got.Catch).Value != start {
			t.Fatalf("AckOf of a catch that begins at %d is %+v", start, impl.AckOf(got.Catch))
		}
	}
}

// everyFew tells each catch whose places from base on are any of so many.
func everyFew(start int64, base int64, count int, tell func(c impl.Catch)) {
	for bits := range 1 << count {
		cells := make([]bool, count+1)
		for i := range count {
			cells[i] = bits>>i&1 == 1
		}
		tell(catchOf(start, base, cells))
	}
}

// Whichever of a few places were seen, and whatever is taken of these and of the ones beside them.
func TestPromise8EverySpanOfEveryFew(t *testing.T) {
	const count = 8
	for _, base := range []int64{0, 3, 65532, 999992} {
		everyFew(65533, base, count, func(c impl.Catch) {
			for at := max(0, base-2); at <= min(base+count+2, 1000000); at++ {
				for size := int64(0); size <= min(count+3, 1000000-at); size++ {
					made := checkTaken(t, c, at, size)
					if want := takeModel(c, at, size); !sameCatch(made, want.Catch) {
						t.Fatalf("TakeSpan(%+v, %d, %d) makes %+v, want %+v", c, at, size, made, want)
					}
				}
			}
		})
	}
}

func TestPromise8SpansOfManyKinds(t *testing.T) {
	for _, c := range append(rightCatches(), drawnCatches(150)...) {
		for _, turn := range turnsOfSpan(c) {
			at, size := turn[0], turn[1]
			if at < 0 || at > 1000000 || size < 0 || size > 100 || at+size > 1000000 {
				continue
			}
			if got := impl.TakeSpan(c, at, size); got.Code == impl.ErrMany {
				checkTooMany(t, c, at, size, got)
			} else {
				checkTaken(t, c, at, size)
			}
		}
	}
}

// checkTooMany: a span is refused only by a catch that is full, and only where it touches nothing that was seen.
func checkTooMany(t *testing.T, c impl.Catch, at int64, size int64, got impl.CatchResult) {
	t.Helper()
	touches := false
	for place := at - 1; place <= at+size; place++ {
		touches = touches || seenAt(c, place)
	}
	if !sameTaken(got, impl.CatchResult{Code: impl.ErrMany}) || len(c.Spans) != impl.MaxSpans || size == 0 || touches || at == c.Next {
		t.Fatalf("TakeSpan(%+v, %d, %d) = %+v", c, at, size, got)
	}
}

// Spans that end behind the last place stay as they are, wherever nothing joins them to Next.
func TestPromise8BesideLateSpans(t *testing.T) {
	for _, c := range lateCatches() {
		for at := c.Next - 3; at <= 1000000; at++ {
			for size := int64(0); size <= min(40, 1000000-at); size++ {
				if takeModel(c, at, size).Catch.Next > 1000000 || takeModel(c, at, size).Code != impl.OK {
					continue
				}
				checkTaken(t, c, at, size)
			}
		}
	}
}

// takeAll takes pieces of a path in that order; what is made of them at the end hangs on no order.
func takeAll(t *testing.T, c impl.Catch, pieces [][2]int64, order []int) impl.Catch {
	t.Helper()
	for _, i := range order {
		c = checkTaken(t, c, pieces[i][0], pieces[i][1])
	}
	return c
}

func TestPromise8EveryOrder(t *testing.T) {
	rows := [][][2]int64{
		{{0, 3}, {3, 3}, {6, 3}, {9, 3}, {12, 3}, {15, 3}},
		{{0, 5}, {2, 5}, {4, 6}, {8, 4}, {11, 6}, {0, 17}},
		{{1, 2}, {4, 2}, {7, 2}, {10, 2}, {3, 1}, {0, 1}},
		{{0, 20}, {5, 10}, {7, 2}, {7, 2}, {19, 1}, {20, 0}},
		{{5, 0}, {0, 0}, {4, 4}, {8, 0}, {0, 4}, {12, 1}},
		{{2, 2}, {6, 2}, {10, 2}, {14, 2}, {18, 2}, {4, 2}},
	}
	for _, base := range []int64{0, 65530, 999980} {
		for _, row := range rows {
			pieces := slices.Clone(row)
			for i := range pieces {
				pieces[i][0] += base
			}
			c := catchWith(65535, base)
			first := takeAll(t, c, pieces, []int{0, 1, 2, 3, 4, 5})
			for _, order := range ordersOf(6) {
				if got := takeAll(t, c, pieces, order); !sameCatch(got, first) {
					t.Fatalf("%v in the order %v makes %+v, in theirs %+v", pieces, order, got, first)
				}
			}
		}
	}
}

// A path is seen to its last place, by spans that come late, twice, and over one another.
func TestPromise8ALongWay(t *testing.T) {
	draw := rand.New(rand.NewSource(8))
	for _, start := range []int64{0, 1, 65535} {
		c := catchWith(start, 990000)
		refused := 0
		for c.Next < 1000000 {
			size := draw.Int63n(101)
			at := min(max(0, c.Next-60+draw.Int63n(400)), 1000000-size)
			got := impl.TakeSpan(c, at, size)
			if got.Code == impl.ErrMany {
				checkTooMany(t, c, at, size, got)
				refused++
				continue
			}
			c = checkTaken(t, c, at, size)
		}
		if !sameCatch(c, catchWith(start, 1000000)) || impl.CaughtOf(c) != (impl.IntResult{Value: 1000000}) {
			t.Errorf("from %d on it ends at %+v, %d were refused", start, c, refused)
		}
		if got := impl.TakeSpan(c, 1000000, 0); !sameTaken(got, impl.CatchResult{Catch: c}) {
			t.Errorf("no places behind the last one: %+v", got)
		}
		if got := impl.TakeSpan(c, 1000000, 1); !sameTaken(got, impl.CatchResult{Code: impl.ErrRange}) {
			t.Errorf("a place behind the last one: %+v", got)
		}
	}
}

// A path from its first place to its last, with each second piece late by one.
func TestPromise8FromFirstToLast(t *testing.T) {
	c := impl.StartCatch(65530).Catch
	for at := int64(0); at < 1000000; at += 200 {
		late := impl.TakeSpan(c, at+100, 100)
		both := impl.TakeSpan(late.Catch, at, 100)
		if !sameTaken(late, impl.CatchResult{Fresh: true, Catch: catchWith(65530, at, span(at+100, at+200))}) || !sameTaken(both, impl.CatchResult{Fresh: true, Catch: catchWith(65530, at+200)}) {
			t.Fatalf("at %d: %+v, then %+v", at, late, both)
		}
		c = both.Catch
		checkKnown(t, c)
	}
}

func TestPromise8ManyDrawnSpans(t *testing.T) {
	draw := rand.New(rand.NewSource(88))
	many := 0
	for range 300 {
		base := []int64{0, 65000, 999700}[draw.Intn(3)]
		c := catchWith(draw.Int63n(65536), base)
		most := 1 + draw.Int63n(12)
		for range 80 {
			size := draw.Int63n(most + 1)
			at := base + draw.Int63n(300-size+1)
			got := impl.TakeSpan(c, at, size)
			if got.Code == impl.ErrMany {
				many++
				checkTooMany(t, c, at, size, got)
				continue
			}
			c = checkTaken(t, c, at, size)
		}
	}
	if many < 100 {
		t.Errorf("only %d were too many", many)
	}
}

// keptCatch is a catch with room behind its spans, and a copy of all of it.
type keptCatch struct {
	c    impl.Catch
	row  []impl.Span
	kept []impl.Span
}

func keepCatch(c impl.Catch) keptCatch {
	row := append(slices.Clone(c.Spans), span(71, 72), span(73, 74), span(75, 76))
	k := keptCatch{c: c, row: row, kept: slices.Clone(row)}
	k.c.Spans = row[:len(c.Spans)]
	return k
}

func (k keptCatch) check(t *testing.T, what string) {
	t.Helper()
	if !slices.Equal(k.row, k.kept) {
		t.Fatalf("%s: Spans of %+v are changed: %v, were %v", what, k.c, k.row, k.kept)
	}
}

func everyCatch() []impl.Catch {
	return slices.Concat(rightCatches(), lateCatches(), longCatches(), wrongCatches(), drawnCatches(60))
}

func TestPromise1CatchesAreNotChanged(t *testing.T) {
	for _, c := range everyCatch() {
		k := keepCatch(c)
		for _, turn := range turnsOfSpan(c) {
			impl.TakeSpan(k.c, turn[0], turn[1])
			impl.PlaceOfSeq(k.c, turn[0])
			k.check(t, "taken")
		}
		impl.CatchFault(k.c)
		impl.AckOf(k.c)
		impl.CaughtOf(k.c)
		k.check(t, "asked")
	}
}

// spoilCatch writes over all of an answer and over the room behind its spans.
func spoilCatch(c impl.Catch) {
	all := c.Spans[:cap(c.Spans)]
	for i := range all {
		all[i] = span(-7, -9)
	}
}

// catchesOf are calls that answer a catch: what changes nothing, and what changes much.
func catchesOf(c impl.Catch) map[string]func() impl.CatchResult {
	take := func(at int64, size int64) func() impl.CatchResult {
		return func() impl.CatchResult { return impl.TakeSpan(c, at, size) }
	}
	calls := map[string]func() impl.CatchResult{
		"StartCatch":              func() impl.CatchResult { return impl.StartCatch(c.Start) },
		"TakeSpan, of no places":  take(c.Next, 0),
		"TakeSpan, of old":        take(0, 1),
		"TakeSpan, at Next":       take(c.Next, 1),
		"TakeSpan, of more":       take(c.Next+1, 60),
		"TakeSpan, the last":      take(999999, 1),
		"TakeSpan, out of bounds": take(-1, 1),
	}
	for i, s := range c.Spans {
		if i%6 == 0 {
			calls["TakeSpan, of a span"] = take(s.From, 1)
			calls["TakeSpan, behind a span"] = take(s.To, 1)
		}
	}
	return calls
}

func TestPromise1CatchesAreNewMemory(t *testing.T) {
	for _, c := range everyCatch() {
		k := keepCatch(c)
		for name, call := range catchesOf(k.c) {
			got := call()
			was := impl.CatchResult{Code: got.Code, Fresh: got.Fresh, Catch: cloneCatch(got.Catch)}
			spoilCatch(got.Catch)
			k.check(t, name+" was written over")
			if again := call(); !sameTaken(again, was) {
				t.Fatalf("%s that was written over is told again: %+v, was %+v", name, again, was)
			}
		}
	}
}

// The other way round: an answer stays as it is where an argument is written over.
func TestPromise1CatchesStayWhereArgumentsTurn(t *testing.T) {
	for _, c := range everyCatch() {
		for name := range catchesOf(c) {
			k := keepCatch(c)
			got := catchesOf(k.c)[name]()
			was := impl.CatchResult{Code: got.Code, Fresh: got.Fresh, Catch: cloneCatch(got.Catch)}
			clear(k.row)
			if !sameTaken(got, was) {
				t.Fatalf("%s of %+v turns with its argument: %+v, was %+v", name, c, got, was)
			}
		}
	}
}

func TestPromise1CatchesSameArgumentsSameAnswers(t *testing.T) {
	type answer struct {
		start, take, join  impl.CatchResult
		place, ack, caught impl.IntResult
		fault              int64
	}
	catches := everyCatch()
	ask := func() (out []answer) {
		for i, c := range catches {
			out = append(out, answer{
				start: impl.StartCatch(c.Start), take: impl.TakeSpan(c, 40, 3), join: impl.TakeSpan(c, c.Next, 30),
				place: impl.PlaceOfSeq(c, 70000), ack: impl.AckOf(c), caught: impl.CaughtOf(c), fault: impl.CatchFault(c),
			})
			if i%2 == 0 {
				spoilCatch(impl.TakeSpan(c, 40, 3).Catch)
			}
		}
		return out
	}
	first := ask()
	for range 5 {
		slices.Reverse(catches)
		slices.Reverse(first)
		for i, a := range ask() {
			b := first[i]
			if !sameTaken(a.start, b.start) || !sameTaken(a.take, b.take) || !sameTaken(a.join, b.join) || a.place != b.place || a.ack != b.ack || a.caught != b.caught || a.fault != b.fault {
				t.Fatalf("%+v is answered as %+v once and as %+v then", catches[i], b, a)
			}
		}
	}
}

// nil and an empty list are the same value.
func TestPromise1EmptySpansAndNil(t *testing.T) {
	for _, next := range aroundOf(0, 5, 1000000) {
		for _, start := range []int64{-1, 0, 65535, 65536} {
			a, b := impl.Catch{Start: start, Next: next}, impl.Catch{Start: start, Next: next, Spans: []impl.Span{}}
			if impl.CatchFault(a) != impl.CatchFault(b) || impl.AckOf(a) != impl.AckOf(b) || impl.CaughtOf(a) != impl.CaughtOf(b) {
				t.Errorf("%+v and %+v are told apart", a, b)
			}
			for _, n := range aroundOf(0, 5, 100, 1000000) {
				if !sameTaken(impl.TakeSpan(a, n, 5), impl.TakeSpan(b, n, 5)) || !sameTaken(impl.TakeSpan(a, 5, n), impl.TakeSpan(b, 5, n)) || impl.PlaceOfSeq(a, n) != impl.PlaceOfSeq(b, n) {
					t.Errorf("%+v and %+v are told apart at %d", a, b, n)
				}
			}
		}
	}
}

// Every function answers at every argument, one wrong beside another.
func TestPromise1CatchesAnswerEverywhere(t *testing.T) {
	numbers := aroundOf(0, 100, 65535, 1000000, 1000100)
	turnedCatches(func(c impl.Catch) {
		for _, n := range numbers[:6] {
			impl.TakeSpan(c, n, n)
			impl.PlaceOfSeq(c, n)
		}
	})
	for _, c := range append(wrongCatches(), impl.Catch{}, spanComb(9, 10, 20, 1, 1)) {
		for _, at := range numbers {
			for _, size := range numbers {
				got := impl.TakeSpan(c, at, size)
				if got.Code != impl.OK && !sameTaken(got, impl.CatchResult{Code: got.Code}) {
					t.Fatalf("TakeSpan(%+v, %d, %d) = %+v", c, at, size, got)
				}
			}
		}
	}
}
