package tests

import (
	"math"
	"math/rand"
	"slices"
	"testing"

	"loop.example/g00230/impl"
)

func span(from int64, to int64) impl.Span { return impl.Span{From: from, To: to} }

func catchWith(start int64, next int64, spans ...impl.Span) impl.Catch {
	return impl.Catch{Start: start, Next: next, Spans: spans}
}

// spanComb has so many spans of so many places, each behind a gap of so many.
func spanComb(start int64, next int64, count int, size int64, gap int64) impl.Catch {
	c := impl.Catch{Start: start, Next: next}
	for at := next + gap; len(c.Spans) < count; at += size + gap {
		c.Spans = append(c.Spans, span(at, at+size))
	}
	return c
}

func catchFaultModel(c impl.Catch) int64 {
	switch {
	case c.Start < 0, c.Start >= 65536, c.Next < 0, c.Next >= 1000001:
		return impl.ErrRange
	case len(c.Spans) >= 21:
		return impl.ErrMany
	}
	for i, s := range c.Spans {
		switch {
		case s.To >= 1000101:
			return impl.ErrRange
		case i == 0 && !(s.From > c.Next), i > 0 && !(s.From > c.Spans[i-1].To), !(s.From < s.To):
			return impl.ErrForm
		}
	}
	return impl.OK
}

func startCatchModel(start int64) impl.CatchResult {
	if start < 0 || start >= 65536 {
		return impl.CatchResult{Code: impl.ErrRange}
	}
	return impl.CatchResult{Catch: impl.Catch{Start: start}}
}

// cellsOf has a cell for each place from Next on, up to the one behind all that was seen and behind that end.
func cellsOf(c impl.Catch, end int64) []bool {
	end = max(end, c.Next)
	for _, s := range c.Spans {
		end = max(end, s.To)
	}
	cells := make([]bool, end-c.Next+1)
	for _, s := range c.Spans {
		for place := s.From; place < s.To; place++ {
			cells[place-c.Next] = true
		}
	}
	return cells
}

// catchOf reads a catch off cells, of which the first one is the place from.
func catchOf(start int64, from int64, cells []bool) impl.Catch {
	done := slices.Index(cells, false)
	c := impl.Catch{Start: start, Next: from + int64(done)}
	for i := done; i < len(cells); i++ {
		place := from + int64(i)
		switch {
		case !cells[i]:
		case !cells[i-1]:
			c.Spans = append(c.Spans, span(place, place+1))
		default:
			c.Spans[len(c.Spans)-1].To++
		}
	}
	return c
}

// takeModel marks cell by cell what is seen.
func takeModel(c impl.Catch, at int64, size int64) impl.CatchResult {
	if fault := catchFaultModel(c); fault != impl.OK {
		return impl.CatchResult{Code: fault}
	}
	if at < 0 || size < 0 || size > 100 || above(addUp(at, size), 1000000) {
		return impl.CatchResult{Code: impl.ErrRange}
	}
	cells, fresh := cellsOf(c, at+size), false
	for place := max(at, c.Next); place < at+size; place++ {
		fresh = fresh || !cells[place-c.Next]
		cells[place-c.Next] = true
	}
	taken := catchOf(c.Start, c.Next, cells)
	if len(taken.Spans) > 20 {
		return impl.CatchResult{Code: impl.ErrMany}
	}
	return impl.CatchResult{Fresh: fresh, Catch: taken}
}

func placeModel(c impl.Catch, seq int64) impl.IntResult {
	if fault := catchFaultModel(c); fault != impl.OK {
		return impl.IntResult{Code: fault}
	}
	if place := c.Next + aheadModel(c.Start+c.Next, seq); place >= 0 {
		return impl.IntResult{Value: place}
	}
	return impl.IntResult{Code: impl.ErrNone}
}

func ackOfModel(c impl.Catch) impl.IntResult {
	if fault := catchFaultModel(c); fault != impl.OK {
		return impl.IntResult{Code: fault}
	}
	return impl.IntResult{Value: leftOf(whole(c.Start), whole(c.Next))}
}

func caughtModel(c impl.Catch) impl.IntResult {
	if fault := catchFaultModel(c); fault != impl.OK {
		return impl.IntResult{Code: fault}
	}
	count := c.Next
	for _, seen := range cellsOf(c, 0) {
		if seen {
			count++
		}
	}
	return impl.IntResult{Value: count}
}

func sameCatch(a impl.Catch, b impl.Catch) bool {
	return a.Start == b.Start && a.Next == b.Next && slices.Equal(a.Spans, b.Spans)
}

func sameTaken(a impl.CatchResult, b impl.CatchResult) bool {
	return a.Code == b.Code && a.Fresh == b.Fresh && sameCatch(a.Catch, b.Catch)
}

func cloneCatch(c impl.Catch) impl.Catch {
	c.Spans = slices.Clone(c.Spans)
	return c
}

// rightCatches are without a fault, and no span ends behind the last place: ordinary ones, and each number at its bounds.
func rightCatches() []impl.Catch {
	return []impl.Catch{
		{},
		{Spans: []impl.Span{}},
		{Start: 65535},
		catchWith(65535, 0, span(3, 5)),
		catchWith(0, 0, span(1, 2)),
		catchWith(7, 5, span(6, 7), span(8, 9), span(11, 20)),
		catchWith(65500, 100, span(101, 150), span(152, 153), span(200, 300)),
		catchWith(1, 65530, span(65535, 65536), span(65540, 65600)),
		catchWith(65534, 32767, span(32800, 32801)),
		catchWith(3, 1000000),
		catchWith(65535, 1000000),
		catchWith(9, 999999),
		catchWith(9, 999998, span(999999, 1000000)),
		catchWith(65535, 999900, span(999901, 999950), span(999999, 1000000)),
		catchWith(2, 999850, span(999900, 1000000)),
		spanComb(0, 0, 20, 1, 1),
		spanComb(65530, 0, 19, 2, 3),
		spanComb(12, 40, 20, 7, 2),
		spanComb(65535, 999960, 20, 1, 1),
		spanComb(4, 65520, 20, 3, 1),
	}
}

// lateCatches have a last span that ends behind the last place, as far as a catch without a fault may have one.
func lateCatches() []impl.Catch {
	return []impl.Catch{
		catchWith(5, 999990, span(999995, 1000001)),
		catchWith(5, 999990, span(999992, 999993), span(999995, 1000100)),
		catchWith(65535, 1000000, span(1000001, 1000100)),
		catchWith(0, 1000000, span(1000001, 1000002), span(1000099, 1000100)),
		catchWith(1, 999999, span(1000000, 1000100)),
		spanComb(0, 999970, 20, 2, 4),
	}
}

// longCatches have spans of many places: few of them, since the model goes place by place.
func longCatches() []impl.Catch {
	return []impl.Catch{
		catchWith(5, 0, span(1, 1000100)),
		catchWith(5, 0, span(1, 500000), span(500001, 1000000)),
		catchWith(65535, 99, span(100, 1000000)),
		catchWith(9, 300, span(400, 70000), span(900000, 900001)),
	}
}

// drawnCatches are without a fault, drawn from a seed that is always the same.
func drawnCatches(count int) (out []impl.Catch) {
	draw := rand.New(rand.NewSource(20))
	for range count {
		next := []int64{0, draw.Int63n(20), 65500 + draw.Int63n(50), draw.Int63n(900000), 998000 - draw.Int63n(50)}[draw.Intn(5)]
		c := impl.Catch{Start: []int64{0, 65535, 65500 + draw.Int63n(36), draw.Int63n(65536)}[draw.Intn(4)], Next: next}
		most := []int64{2, 5, 40}[draw.Intn(3)]
		end := next
		for range draw.Intn(21) {
			from := end + 1 + draw.Int63n(most)
			end = from + 1 + draw.Int63n(most)
			c.Spans = append(c.Spans, span(from, end))
		}
		out = append(out, c)
	}
	return out
}

func wrongCatches() []impl.Catch {
	return []impl.Catch{
		{Start: -1}, {Start: 65536}, {Next: -1}, {Next: 1000001}, catchWith(65536, 0, span(3, 5), span(9, 10)),
		spanComb(0, 0, 21, 1, 1), spanComb(0, 0, 40, 2, 2),
		catchWith(0, 4, span(4, 5)), catchWith(0, 4, span(5, 5)), catchWith(0, 4, span(6, 5)), catchWith(0, 0, span(1, 2), span(2, 3)),
		catchWith(0, 0, span(5, 8), span(1, 3)), catchWith(0, 0, span(1, 2), span(4, 1000101)), catchWith(0, 0, span(math.MinInt64, math.MaxInt64)),
	}
}

type catchTurn func(c impl.Catch) []impl.Catch

func catchNumbers(of func(c *impl.Catch) *int64, list ...int64) catchTurn {
	return func(c impl.Catch) (out []impl.Catch) {
		for _, n := range aroundOf(list...) {
			turned := cloneCatch(c)
			if place := of(&turned); place != nil {
				*place = n
				out = append(out, turned)
			}
		}
		return out
	}
}

// catchTurns set each number of a catch and of its first, second and last span at and beside its bounds, and give it other counts of spans.
func catchTurns() []catchTurn {
	all := []catchTurn{
		catchNumbers(func(c *impl.Catch) *int64 { return &c.Start }, 0, 65535),
		catchNumbers(func(c *impl.Catch) *int64 { return &c.Next }, 0, 10, 1000000),
		turnSpanCounts,
	}
	for _, which := range []func(count int) int{func(int) int { return 0 }, func(int) int { return 1 }, func(count int) int { return count - 1 }} {
		field := func(of func(s *impl.Span) *int64) catchTurn {
			return catchNumbers(func(c *impl.Catch) *int64 {
				i := which(len(c.Spans))
				if i < 0 || i >= len(c.Spans) {
					return nil
				}
				return of(&c.Spans[i])
			}, 0, 10, 12, 15, 18, 1000000, 1000100)
		}
		all = append(all, field(func(s *impl.Span) *int64 { return &s.From }), field(func(s *impl.Span) *int64 { return &s.To }))
	}
	return all
}

func turnSpanCounts(c impl.Catch) (out []impl.Catch) {
	out = append(out, catchWith(c.Start, c.Next), impl.Catch{Start: c.Start, Next: c.Next, Spans: []impl.Span{}})
	for _, count := range []int{1, 19, 20, 21, 22, 60} {
		out = append(out, spanComb(c.Start, c.Next, count, 1, 1))
	}
	return out
}

// turnedCatches tells each catch with one thing turned, and with each two; most have a fault, many have several.
func turnedCatches(tell func(c impl.Catch)) {
	all := catchTurns()
	for _, c := range []impl.Catch{{}, catchWith(9, 10, span(12, 15), span(17, 18), span(30, 40)), spanComb(65535, 10, 20, 3, 2)} {
		for i, one := range all {
			for _, once := range one(c) {
				tell(once)
				for _, other := range all[i+1:] {
					for _, twice := range other(once) {
						tell(twice)
					}
				}
			}
		}
	}
}

func TestCatchConstants(t *testing.T) {
	if impl.MaxSpans != 20 {
		t.Errorf("MaxSpans is %d", impl.MaxSpans)
	}
}

func TestCatchFault(t *testing.T) {
	rows := []struct {
		what string
		c    impl.Catch
		want int64
	}{
		{"nothing", impl.Catch{}, impl.OK},
		{"no spans, but not nil", impl.Catch{Spans: []impl.Span{}}, impl.OK},
		{"Start -1", impl.Catch{Start: -1}, impl.ErrRange},
		{"Start 65535", impl.Catch{Start: 65535}, impl.OK},
		{"Start 65536", impl.Catch{Start: 65536}, impl.ErrRange},
		{"Start least", impl.Catch{Start: math.MinInt64}, impl.ErrRange},
		{"Start greatest", impl.Catch{Start: math.MaxInt64}, impl.ErrRange},
		{"Next -1", impl.Catch{Next: -1}, impl.ErrRange},
		{"Next 10^6", impl.Catch{Next: 1000000}, impl.OK},
		{"Next 10^6 + 1", impl.Catch{Next: 1000001}, impl.ErrRange},
		{"Next 10^6 + 100", impl.Catch{Next: 1000100}, impl.ErrRange},
		{"Next least", impl.Catch{Next: math.MinInt64}, impl.ErrRange},
		{"Next greatest", impl.Catch{Next: math.MaxInt64}, impl.ErrRange},
		{"20 spans", spanComb(0, 0, 20, 1, 1), impl.OK},
		{"21 spans", spanComb(0, 0, 21, 1, 1), impl.ErrMany},
		{"To 10^6 + 100", catchWith(0, 4, span(6, 1000100)), impl.OK},
		{"To 10^6 + 101", catchWith(0, 4, span(6, 1000101)), impl.ErrRange},
		{"To greatest", catchWith(0, 4, span(6, math.MaxInt64)), impl.ErrRange},
		{"one place at 10^6 + 99", catchWith(0, 1000000, span(1000099, 1000100)), impl.OK},
		{"one place behind that", catchWith(0, 1000000, span(1000100, 1000101)), impl.ErrRange},
		{"From 1 above Next", catchWith(0, 4, span(5, 6)), impl.OK},
		{"From at Next", catchWith(0, 4, span(4, 6)), impl.ErrForm},
		{"From below Next", catchWith(0, 4, span(3, 6)), impl.ErrForm},
		{"From least", catchWith(0, 4, span(math.MinInt64, 6)), impl.ErrForm},
		{"From greatest", catchWith(0, 4, span(math.MaxInt64, 6)), impl.ErrForm},
		{"no places", catchWith(0, 4, span(6, 6)), impl.ErrForm},
		{"To below From", catchWith(0, 4, span(7, 6)), impl.ErrForm},
		{"To least", catchWith(0, 4, span(7, math.MinInt64)), impl.ErrForm},
		{"the second 1 above the first", catchWith(0, 4, span(5, 6), span(7, 8)), impl.OK},
		{"the second touches the first", catchWith(0, 4, span(5, 6), span(6, 8)), impl.ErrForm},
		{"the second over the first", catchWith(0, 4, span(5, 9), span(7, 12)), impl.ErrForm},
		{"the second within the first", catchWith(0, 4, span(5, 12), span(7, 8)), impl.ErrForm},
		{"the same twice", catchWith(0, 4, span(5, 6), span(5, 6)), impl.ErrForm},
		{"two changed about", catchWith(0, 4, span(9, 10), span(5, 6)), impl.ErrForm},
		{"the third at the first", catchWith(0, 4, span(6, 7), span(9, 10), span(7, 8)), impl.ErrForm},
		{"the last has no places", catchWith(0, 4, span(6, 7), span(9, 10), span(12, 12)), impl.ErrForm},
	}
	for _, row := range rows {
		if got := impl.CatchFault(row.c); got != row.want {
			t.Errorf("%s: CatchFault = %d, want %d", row.what, got, row.want)
		}
	}
}

// The order of the codes: numbers of the catch, how many spans, each span with its own.
func TestCatchFaultOrder(t *testing.T) {
	many := func(first impl.Span) impl.Catch {
		c := spanComb(0, 0, 21, 1, 1)
		c.Spans[0] = first
		return c
	}
	rows := []struct {
		what string
		c    impl.Catch
		want int64
	}{
		{"Start ahead of too many", spanComb(65536, 0, 21, 1, 1), impl.ErrRange},
		{"Next ahead of too many", spanComb(0, -1, 21, 1, 1), impl.ErrRange},
		{"Start ahead of the form", catchWith(-1, 0, span(0, 0)), impl.ErrRange},
		{"Next ahead of the form", catchWith(0, 1000001, span(0, 0)), impl.ErrRange},
		{"too many ahead of the form", many(span(0, 0)), impl.ErrMany},
		{"too many ahead of To", many(span(1, 1000101)), impl.ErrMany},
		{"To ahead of From", catchWith(0, 4, span(4, 1000101)), impl.ErrRange},
		{"To ahead of no places", catchWith(0, 4, span(1000101, 1000101)), impl.ErrRange},
		{"To ahead of a From above it", catchWith(0, 4, span(math.MaxInt64, 1000101)), impl.ErrRange},
		{"To of the second ahead of its From", catchWith(0, 4, span(6, 7), span(7, 1000101)), impl.ErrRange},
		{"the form of the first ahead of To of the second", catchWith(0, 4, span(4, 7), span(9, 1000101)), impl.ErrForm},
		{"no places of the first ahead of To of the second", catchWith(0, 4, span(7, 7), span(9, 1000101)), impl.ErrForm},
		{"To of the first ahead of the form of the second", catchWith(0, 4, span(6, 1000101), span(3, 2)), impl.ErrRange},
		{"the form of the second ahead of To of the third", catchWith(0, 4, span(6, 8), span(8, 9), span(20, 1000101)), impl.ErrForm},
	}
	for _, row := range rows {
		if got := impl.CatchFault(row.c); got != row.want {
			t.Errorf("%s: CatchFault = %d, want %d", row.what, got, row.want)
		}
	}
}

func TestCatchFaultAgainstModel(t *testing.T) {
	codes := map[int64]int{}
	turnedCatches(func(c impl.Catch) {
		got, want := impl.CatchFault(c), catchFaultModel(c)
		if got != want {
			t.Fatalf("CatchFault(%+v) = %d, want %d", c, got, want)
		}
		codes[got]++
	})
	for _, code := range []int64{impl.OK, impl.ErrForm, impl.ErrMany, impl.ErrRange} {
		if codes[code] < 50 {
			t.Errorf("the code %d came only %d times", code, codes[code])
		}
	}
	for _, c := range slices.Concat(rightCatches(), lateCatches(), longCatches(), drawnCatches(300)) {
		if got := impl.CatchFault(c); got != impl.OK || catchFaultModel(c) != impl.OK {
			t.Errorf("CatchFault(%+v) = %d", c, got)
		}
	}
	for _, c := range wrongCatches() {
		if got := impl.CatchFault(c); got == impl.OK || got != catchFaultModel(c) {
			t.Errorf("CatchFault(%+v) = %d", c, got)
		}
	}
}

// With a catch that has a fault every function tells its code, whatever else is wrong, and zero beside it.
func TestCatchFaultIsAskedFirst(t *testing.T) {
	turnedCatches(func(c impl.Catch) {
		fault := catchFaultModel(c)
		if fault == impl.OK {
			return
		}
		none, noNumber := impl.CatchResult{Code: fault}, impl.IntResult{Code: fault}
		for _, n := range []int64{0, 20, -1, math.MaxInt64} {
			if got := impl.TakeSpan(c, n, n); !sameTaken(got, none) {
				t.Fatalf("TakeSpan(%+v, %d, %d) = %+v, want the code %d", c, n, n, got, fault)
			}
			if got := impl.PlaceOfSeq(c, n); got != noNumber {
				t.Fatalf("PlaceOfSeq(%+v, %d) = %+v, want the code %d", c, n, got, fault)
			}
		}
		if ack, caught := impl.AckOf(c), impl.CaughtOf(c); ack != noNumber || caught != noNumber {
			t.Fatalf("of %+v: AckOf %+v, CaughtOf %+v, want the code %d", c, ack, caught, fault)
		}
	})
}

func TestStartCatch(t *testing.T) {
	for _, start := range []int64{0, 1, 32768, 65534, 65535} {
		got := impl.StartCatch(start)
		if !sameTaken(got, impl.CatchResult{Catch: impl.Catch{Start: start}}) || impl.CatchFault(got.Catch) != impl.OK {
			t.Errorf("StartCatch(%d) = %+v", start, got)
		}
	}
	for _, start := range []int64{-1, 65536, 65537, 1 << 32, math.MinInt64, math.MaxInt64} {
		if got := impl.StartCatch(start); !sameTaken(got, impl.CatchResult{Code: impl.ErrRange}) {
			t.Errorf("StartCatch(%d) = %+v", start, got)
		}
	}
	for _, start := range edgeNumbers() {
		if got, want := impl.StartCatch(start), startCatchModel(start); !sameTaken(got, want) {
			t.Errorf("StartCatch(%d) = %+v, want %+v", start, got, want)
		}
	}
}

func TestTakeSpan(t *testing.T) {
	c := catchWith(9, 10, span(12, 15), span(20, 30))
	same := c.Spans
	rows := []struct {
		what     string
		at, size int64
		fresh    bool
		next     int64
		spans    []impl.Span
	}{
		{"no places, in a gap", 17, 0, false, 10, same},
		{"no places, at Next", 10, 0, false, 10, same},
		{"no places, at 0", 0, 0, false, 10, same},
		{"no places, where a span begins", 12, 0, false, 10, same},
		{"no places, where a span ends", 15, 0, false, 10, same},
		{"no places, within a span", 25, 0, false, 10, same},
		{"no places, behind all", 900, 0, false, 10, same},
		{"no places, behind the last place", 1000000, 0, false, 10, same},
		{"below Next", 3, 5, false, 10, same},
		{"up to Next", 0, 10, false, 10, same},
		{"the place ahead of Next", 9, 1, false, 10, same},
		{"just a span", 12, 3, false, 10, same},
		{"within a span", 22, 4, false, 10, same},
		{"the beginning of a span", 20, 4, false, 10, same},
		{"the end of a span", 26, 4, false, 10, same},
		{"Next alone", 10, 1, true, 11, same},
		{"over Next", 4, 7, true, 11, same},
		{"from Next up to a span", 10, 2, true, 15, same[1:]},
		{"from below Next into a span", 0, 13, true, 15, same[1:]},
		{"from Next over a span", 10, 8, true, 18, same[1:]},
		{"from Next up to the second", 10, 10, true, 30, nil},
		{"from 0 over all", 0, 50, true, 50, nil},
		{"ahead of the first, not at Next", 11, 1, true, 10, []impl.Span{span(11, 15), span(20, 30)}},
		{"behind the first", 15, 2, true, 10, []impl.Span{span(12, 17), span(20, 30)}},
		{"over the end of the first", 14, 3, true, 10, []impl.Span{span(12, 17), span(20, 30)}},
		{"ahead of the second", 19, 1, true, 10, []impl.Span{span(12, 15), span(19, 30)}},
		{"alone between two", 16, 3, true, 10, []impl.Span{span(12, 15), span(16, 19), span(20, 30)}},
		{"just the gap", 15, 5, true, 10, []impl.Span{span(12, 30)}},
		{"over the gap", 13, 12, true, 10, []impl.Span{span(12, 30)}},
		{"over both", 11, 21, true, 10, []impl.Span{span(11, 32)}},
		{"behind the last", 30, 3, true, 10, []impl.Span{span(12, 15), span(20, 33)}},
		{"alone behind the last", 31, 3, true, 10, []impl.Span{span(12, 15), span(20, 30), span(31, 34)}},
		{"100 places", 500, 100, true, 10, []impl.Span{span(12, 15), span(20, 30), span(500, 600)}},
		{"the last place", 999999, 1, true, 10, []impl.Span{span(12, 15), span(20, 30), span(999999, 1000000)}},
		{"100 places up to the last", 999900, 100, true, 10, []impl.Span{span(12, 15), span(20, 30), span(999900, 1000000)}},
	}
	for _, row := range rows {
		want := impl.CatchResult{Fresh: row.fresh, Catch: impl.Catch{Start: 9, Next: row.next, Spans: row.spans}}
		if got := impl.TakeSpan(c, row.at, row.size); !sameTaken(got, want) {
			t.Errorf("%s: TakeSpan at %d, %d = %+v, want %+v", row.what, row.at, row.size, got, want)
		}
	}
}

func TestTakeSpanWrong(t *testing.T) {
	few, full := catchWith(9, 10, span(12, 15)), spanComb(9, 10, 20, 1, 1)
	wrong := []struct{ at, size int64 }{
		{-1, 0}, {-1, 1}, {-1, 100}, {-50, 100}, {0, -1}, {5, -1}, {20, -5}, {0, 101}, {5, 101}, {1000000, 1}, {999999, 2}, {999901, 100}, {1000000, 100}, {1000001, 0}, {1000001, -1}, {1000100, 0},
		{math.MinInt64, 0}, {math.MinInt64, math.MinInt64}, {math.MinInt64, 100}, {math.MaxInt64, 0}, {math.MaxInt64, 1}, {math.MaxInt64, 100}, {math.MaxInt64, math.MaxInt64}, {math.MaxInt64 - 50, 100},
		{0, math.MaxInt64}, {0, math.MinInt64}, {5, math.MaxInt64}, {math.MaxInt64, math.MinInt64}, {math.MinInt64, math.MaxInt64},
	}
	for _, row := range wrong {
		for _, c := range []impl.Catch{few, full, {}} {
			if got := impl.TakeSpan(c, row.at, row.size); !sameTaken(got, impl.CatchResult{Code: impl.ErrRange}) {
				t.Errorf("TakeSpan(%+v, %d, %d) = %+v", c, row.at, row.size, got)
			}
		}
	}
	for _, row := range []struct{ at, size int64 }{{100, 1}, {52, 1}, {52, 100}, {999999, 1}, {999900, 100}} {
		if got := impl.TakeSpan(full, row.at, row.size); !sameTaken(got, impl.CatchResult{Code: impl.ErrMany}) {
			t.Errorf("TakeSpan of 20 spans and at %d, %d = %+v", row.at, row.size, got)
		}
	}
}

// What would be one more may be taken wherever it joins another one, or has no places.
func TestTakeSpanOfFullCatches(t *testing.T) {
	full := spanComb(9, 10, 20, 1, 2)
	rows := []struct {
		what        string
		at, size    int64
		code, count int64
	}{
		{"no places", 11, 0, impl.OK, 20}, {"no places, behind all", 500, 0, impl.OK, 20}, {"seen already", 12, 1, impl.OK, 20}, {"below Next", 0, 10, impl.OK, 20},
		{"at Next", 10, 1, impl.OK, 20}, {"at Next, up to the first", 10, 2, impl.OK, 19}, {"ahead of the first", 11, 1, impl.OK, 20},
		{"behind the first", 13, 1, impl.OK, 20}, {"a whole gap", 13, 2, impl.OK, 19}, {"over many", 13, 20, impl.OK, 13}, {"over many, not up to the next", 13, 19, impl.OK, 14}, {"over all", 0, 100, impl.OK, 0},
		{"behind the last", 70, 30, impl.OK, 20}, {"not beside the last", 71, 1, impl.ErrMany, 0}, {"far behind", 999999, 1, impl.ErrMany, 0},
	}
	for _, row := range rows {
		got := impl.TakeSpan(full, row.at, row.size)
		if got.Code != row.code || int64(len(got.Catch.Spans)) != row.count || !sameTaken(got, takeModel(full, row.at, row.size)) {
			t.Errorf("%s: TakeSpan at %d, %d = %+v", row.what, row.at, row.size, got)
		}
	}
	wide := spanComb(9, 10, 20, 1, 5)
	if got := impl.TakeSpan(wide, 12, 2); !sameTaken(got, impl.CatchResult{Code: impl.ErrMany}) {
		t.Errorf("one more ahead of 20 spans: %+v", got)
	}
	if got := impl.TakeSpan(wide, 24, 1); !sameTaken(got, impl.CatchResult{Code: impl.ErrMany}) {
		t.Errorf("one more between 20 spans: %+v", got)
	}
	less := spanComb(9, 10, 19, 1, 5)
	if got := impl.TakeSpan(less, 12, 2); got.Code != impl.OK || !got.Fresh || len(got.Catch.Spans) != 20 {
		t.Errorf("one more ahead of 19 spans: %+v", got)
	}
}

// A span that ends behind the last place may be joined: Next is its To then, by the words of the document, even where that is above 10^6.
func TestTakeSpanUpToALateSpan(t *testing.T) {
	c := catchWith(5, 999990, span(999995, 1000100))
	got := impl.TakeSpan(c, 999990, 5)
	if !sameTaken(got, impl.CatchResult{Fresh: true, Catch: impl.Catch{Start: 5, Next: 1000100}}) {
		t.Errorf("up to the late span: %+v", got)
	}
	part := impl.TakeSpan(c, 999992, 8)
	if !sameTaken(part, impl.CatchResult{Fresh: true, Catch: catchWith(5, 999990, span(999992, 1000100))}) {
		t.Errorf("beside Next: %+v", part)
	}
}

// turnsOfSpan are pairs at and beside the places where a span of the catch, or what may be taken, begins and ends.
func turnsOfSpan(c impl.Catch) (out [][2]int64) {
	ats := append(aroundOf(0, 999900, 1000000), c.Next-1, c.Next, c.Next+1)
	for _, s := range c.Spans {
		ats = append(ats, s.From-1, s.From, s.From+1, s.To-1, s.To, s.To+1)
	}
	sizes := append(aroundOf(0, 100), 2, 3, 5, 20)
	for _, at := range ats {
		for _, size := range sizes {
			out = append(out, [2]int64{at, size})
		}
	}
	return out
}

func TestTakeSpanAgainstModel(t *testing.T) {
	for _, c := range slices.Concat(rightCatches(), lateCatches(), wrongCatches(), drawnCatches(60)) {
		for _, turn := range turnsOfSpan(c) {
			// The model goes place by place: what lies far from Next is asked by the catches that lie there.
			if turn[0] > c.Next+5000 && turn[0] <= 1000000 {
				continue
			}
			if got, want := impl.TakeSpan(c, turn[0], turn[1]), takeModel(c, turn[0], turn[1]); !sameTaken(got, want) {
				t.Fatalf("TakeSpan(%+v, %d, %d) = %+v, want %+v", c, turn[0], turn[1], got, want)
			}
		}
	}
	for _, c := range longCatches() {
		for _, turn := range [][2]int64{{0, 1}, {c.Next, 1}, {0, 100}, {c.Next + 1, 99}, {450000, 100}, {500000, 1}, {70000, 5}, {900001, 1}, {999999, 1}, {1000000, 0}} {
			if got, want := impl.TakeSpan(c, turn[0], turn[1]), takeModel(c, turn[0], turn[1]); !sameTaken(got, want) {
				t.Fatalf("TakeSpan(%+v, %d, %d) = %+v, want %+v", c, turn[0], turn[1], got, want)
			}
		}
	}
}

func TestPlaceOfSeq(t *testing.T) {
	rows := []struct {
		start, next, seq int64
		code, want       int64
	}{
		{0, 0, 0, impl.OK, 0}, {0, 0, 1, impl.OK, 1}, {0, 0, 32767, impl.OK, 32767}, {0, 0, 32768, impl.ErrNone, 0}, {0, 0, 65535, impl.ErrNone, 0},
		{65535, 0, 65535, impl.OK, 0}, {65535, 0, 0, impl.OK, 1}, {65535, 0, 65534, impl.ErrNone, 0}, {65535, 5, 6, impl.OK, 7}, {65535, 5, 65534, impl.ErrNone, 0}, {65535, 5, 65535, impl.OK, 0},
		{100, 40, 140, impl.OK, 40}, {100, 40, 100, impl.OK, 0}, {100, 40, 99, impl.ErrNone, 0}, {100, 40, 141, impl.OK, 41},
		{0, 32768, 0, impl.OK, 0}, {0, 32767, 65535, impl.ErrNone, 0}, {0, 32768, 65535, impl.OK, 65535}, {7, 65536, 7, impl.OK, 65536}, {7, 65536, 6, impl.OK, 65535},
		{7, 1000000, 7 + 16960, impl.OK, 1000000}, {7, 1000000, 8 + 16960, impl.OK, 1000001}, {7, 1000000, 7 + 16960 + 32767, impl.OK, 1032767}, {7, 1000000, 7 + 16960 + 32768, impl.OK, 967232},
		// A seq is a number that goes round, whatever it comes as.
		{100, 40, 140 + 65536, impl.OK, 40}, {100, 40, 140 - 65536, impl.OK, 40}, {100, 40, -1, impl.ErrNone, 0},
		{100, 40, math.MinInt64 + 150, impl.OK, 50}, {100, 40, math.MinInt64, impl.ErrNone, 0}, {100, 40, math.MaxInt64, impl.ErrNone, 0}, {65535, 40, math.MaxInt64, impl.OK, 0}, {65535, 40, math.MinInt64, impl.OK, 1},
	}
	for _, row := range rows {
		if got := impl.PlaceOfSeq(catchWith(row.start, row.next), row.seq); got != (impl.IntResult{Code: row.code, Value: row.want}) {
			t.Errorf("PlaceOfSeq of Start %d, Next %d at %d = %+v, want %d with the code %d", row.start, row.next, row.seq, got, row.want, row.code)
		}
	}
}

func TestPlaceOfSeqAgainstModel(t *testing.T) {
	seqs := append(edgeNumbers(), 1, 100, 16960, 65535)
	for _, c := range slices.Concat(rightCatches(), lateCatches(), longCatches(), wrongCatches(), drawnCatches(100)) {
		for _, seq := range append(seqs, c.Start, c.Start-1, c.Start+1, c.Start+c.Next%65536+32767, c.Start+c.Next%65536+32768) {
			if got, want := impl.PlaceOfSeq(c, seq), placeModel(c, seq); got != want {
				t.Fatalf("PlaceOfSeq(%+v, %d) = %+v, want %+v", c, seq, got, want)
			}
		}
	}
	for _, c := range []impl.Catch{{}, catchWith(65535, 0), catchWith(65000, 32768, span(40000, 40001)), catchWith(9, 1000000), catchWith(30000, 70000)} {
		for seq := int64(0); seq < 65536; seq++ {
			if got, want := impl.PlaceOfSeq(c, seq), placeModel(c, seq); got != want {
				t.Fatalf("PlaceOfSeq(%+v, %d) = %+v, want %+v", c, seq, got, want)
			}
		}
	}
}

func TestAckOfAndCaughtOf(t *testing.T) {
	rows := []struct {
		c           impl.Catch
		ack, caught int64
	}{
		{impl.Catch{}, 0, 0}, {impl.Catch{Start: 65535}, 65535, 0}, {catchWith(65535, 1), 0, 1}, {catchWith(65535, 5, span(7, 9)), 4, 7},
		{catchWith(10, 20), 30, 20}, {catchWith(10, 20, span(21, 22), span(30, 40)), 30, 31}, {catchWith(0, 65536), 0, 65536}, {catchWith(7, 65535), 6, 65535},
		{catchWith(0, 1000000), 16960, 1000000}, {catchWith(65535, 1000000), 16959, 1000000}, {catchWith(3, 0, span(1, 1000100)), 3, 1000099}, {catchWith(0, 1000000, span(1000001, 1000100)), 16960, 1000099},
		{spanComb(4, 0, 20, 1, 1), 4, 20}, {spanComb(4, 50, 20, 7, 2), 54, 190},
	}
	for _, row := range rows {
		if got := impl.AckOf(row.c); got != (impl.IntResult{Value: row.ack}) {
			t.Errorf("AckOf(%+v) = %+v, want %d", row.c, got, row.ack)
		}
		if got := impl.CaughtOf(row.c); got != (impl.IntResult{Value: row.caught}) {
			t.Errorf("CaughtOf(%+v) = %+v, want %d", row.c, got, row.caught)
		}
	}
	for _, c := range slices.Concat(rightCatches(), lateCatches(), longCatches(), wrongCatches(), drawnCatches(300)) {
		if got, want := impl.AckOf(c), ackOfModel(c); got != want {
			t.Errorf("AckOf(%+v) = %+v, want %+v", c, got, want)
		}
		if got, want := impl.CaughtOf(c), caughtModel(c); got != want {
			t.Errorf("CaughtOf(%+v) = %+v, want %+v", c, got, want)
		}
	}
}
