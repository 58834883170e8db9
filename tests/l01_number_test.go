package tests

import (
	"math"
	"math/big"
	"slices"
	"testing"

	"loop.example/g00230/impl"
)

// edgeNumbers are the places where numbers that go round are most easily wrong.
func edgeNumbers() []int64 {
	list := []int64{math.MinInt64, math.MinInt64 + 1, math.MaxInt64 - 1, math.MaxInt64, 5, 12345, -12345, 1000000000, 1000000001, -1000000000}
	for _, middle := range []int64{0, 32768, 65536, -32768, -65536, 3 * 65536, -3 * 65536, math.MinInt64 + 65536, math.MaxInt64 - 65536} {
		for off := int64(-2); off <= 2; off++ {
			list = append(list, middle+off)
		}
	}
	return list
}

// leftOf is what Round leaves of a sum, worked out without any bounds.
func leftOf(parts ...*big.Int) int64 {
	sum := new(big.Int)
	for _, part := range parts {
		sum.Add(sum, part)
	}
	return sum.Mod(sum, big.NewInt(65536)).Int64()
}

func whole(n int64) *big.Int { return big.NewInt(n) }

func less(n int64) *big.Int { return new(big.Int).Neg(big.NewInt(n)) }

func aheadModel(a int64, b int64) int64 {
	steps := leftOf(whole(b), less(a))
	if steps >= 32768 {
		return steps - 65536
	}
	return steps
}

func TestCodesAndRound(t *testing.T) {
	codes := []int64{impl.OK, impl.ErrForm, impl.ErrMany, impl.ErrRange, impl.ErrNone, impl.ErrText, impl.ErrSum, impl.ErrTaken, impl.ErrBusy, impl.ErrKey, impl.ErrState}
	for i, code := range codes {
		if code != int64(i) {
			t.Errorf("code %d is %d", i, code)
		}
	}
	if impl.Round != 65536 {
		t.Errorf("Round is %d", impl.Round)
	}
}

func TestWrapNumber(t *testing.T) {
	rows := []struct{ n, want int64 }{
		{0, 0}, {1, 1}, {65535, 65535}, {65536, 0}, {65537, 1}, {131072, 0},
		{-1, 65535}, {-65535, 1}, {-65536, 0}, {-65537, 65535}, {32768, 32768}, {-32768, 32768},
		{math.MaxInt64, 65535}, {math.MinInt64, 0},
	}
	for _, row := range rows {
		if got := impl.WrapNumber(row.n); got != row.want {
			t.Errorf("WrapNumber(%d) = %d, want %d", row.n, got, row.want)
		}
	}
	for _, n := range edgeNumbers() {
		if got, want := impl.WrapNumber(n), leftOf(whole(n)); got != want {
			t.Errorf("WrapNumber(%d) = %d, want %d", n, got, want)
		}
	}
}

func TestAddNumber(t *testing.T) {
	rows := []struct{ a, n, want int64 }{
		{3, 4, 7}, {65535, 2, 1}, {65535, 1, 0}, {0, -1, 65535}, {0, 0, 0}, {65536, 65536, 0}, {-1, -1, 65534},
		{math.MaxInt64, math.MaxInt64, 65534}, {math.MinInt64, math.MinInt64, 0}, {math.MaxInt64, math.MinInt64, 65535},
	}
	for _, row := range rows {
		if got := impl.AddNumber(row.a, row.n); got != row.want {
			t.Errorf("AddNumber(%d, %d) = %d, want %d", row.a, row.n, got, row.want)
		}
	}
	for _, a := range edgeNumbers() {
		for _, n := range edgeNumbers() {
			if got, want := impl.AddNumber(a, n), leftOf(whole(a), whole(n)); got != want {
				t.Errorf("AddNumber(%d, %d) = %d, want %d", a, n, got, want)
			}
		}
	}
}

func TestAhead(t *testing.T) {
	rows := []struct{ a, b, want int64 }{
		{65535, 2, 3}, {2, 65535, -3}, {7, 7, 0}, {10, 15, 5}, {15, 10, -5},
		{0, 32767, 32767}, {0, 32768, -32768}, {0, 32769, -32767},
		{32767, 0, -32767}, {32768, 0, -32768}, {32769, 0, 32767},
		{0, 65535, -1}, {0, 65536, 0}, {-1, 0, 1}, {0, -1, -1}, {-1, 65535, 0},
		{math.MinInt64, math.MaxInt64, -1}, {math.MaxInt64, math.MinInt64, 1},
	}
	for _, row := range rows {
		if got := impl.Ahead(row.a, row.b); got != row.want {
			t.Errorf("Ahead(%d, %d) = %d, want %d", row.a, row.b, got, row.want)
		}
	}
	for _, a := range edgeNumbers() {
		for _, b := range edgeNumbers() {
			if got, want := impl.Ahead(a, b), aheadModel(a, b); got != want {
				t.Errorf("Ahead(%d, %d) = %d, want %d", a, b, got, want)
			}
		}
	}
}

func TestIsAhead(t *testing.T) {
	rows := []struct {
		a, b int64
		want bool
	}{
		{65535, 2, true}, {2, 65535, false}, {7, 7, false}, {7, 8, true}, {8, 7, false}, {7, 65543, false},
		{0, 32767, true}, {0, 32768, false}, {0, 32769, false},
		{32767, 0, false}, {32768, 0, false}, {32769, 0, true}, {-1, 0, true}, {0, -1, false},
		{math.MaxInt64, math.MinInt64, true}, {math.MinInt64, math.MaxInt64, false},
	}
	for _, row := range rows {
		if got := impl.IsAhead(row.a, row.b); got != row.want {
			t.Errorf("IsAhead(%d, %d) = %v, want %v", row.a, row.b, got, row.want)
		}
	}
	for _, a := range edgeNumbers() {
		for _, b := range edgeNumbers() {
			if got, want := impl.IsAhead(a, b), aheadModel(a, b) > 0; got != want {
				t.Errorf("IsAhead(%d, %d) = %v, want %v", a, b, got, want)
			}
		}
	}
}

func TestInSpan(t *testing.T) {
	rows := []struct {
		a, from, size int64
		want          bool
	}{
		{1, 65535, 3, true}, {2, 65535, 3, false}, {65535, 65535, 1, true}, {65534, 65535, 3, false},
		{5, 5, 0, false}, {5, 5, -1, false}, {5, 5, math.MinInt64, false},
		{4, 5, 65535, false}, {4, 5, 65536, true}, {4, 5, 65537, true}, {4, 5, math.MaxInt64, true},
		{-1, 65530, 6, true}, {-1, 65530, 5, false}, {65541, 5, 1, true},
		{math.MinInt64, math.MaxInt64, 2, true}, {math.MinInt64, math.MaxInt64, 1, false},
	}
	for _, row := range rows {
		if got := impl.InSpan(row.a, row.from, row.size); got != row.want {
			t.Errorf("InSpan(%d, %d, %d) = %v, want %v", row.a, row.from, row.size, got, row.want)
		}
	}
	for _, a := range edgeNumbers() {
		for _, from := range edgeNumbers() {
			steps := leftOf(whole(a), less(from))
			sizes := []int64{steps - 1, steps, steps + 1, 0, -1, 65535, 65536, 65537, math.MinInt64, math.MaxInt64}
			for _, size := range sizes {
				if got, want := impl.InSpan(a, from, size), steps < size; got != want {
					t.Errorf("InSpan(%d, %d, %d) = %v, want %v", a, from, size, got, want)
				}
			}
		}
	}
}

func TestMoreOf(t *testing.T) {
	rows := []struct {
		list []int64
		want int64
	}{
		{nil, 0}, {[]int64{}, 0}, {[]int64{9}, 9}, {[]int64{0}, 0}, {[]int64{65535}, 65535},
		{[]int64{65530, 3, 65535}, 3}, {[]int64{3, 65530, 65535}, 3}, {[]int64{1, 2, 3}, 3}, {[]int64{3, 2, 1}, 3},
		// Half of the way round is ahead neither way, so the first one stays.
		{[]int64{0, 32768}, 0}, {[]int64{32768, 0}, 32768}, {[]int64{0, 32767}, 32767}, {[]int64{0, 32769}, 0},
		// Each one is held against that so far, not against the first.
		{[]int64{0, 30000, 60000, 24464}, 24464}, {[]int64{0, 60000, 30000}, 30000},
		// Numbers of a list are told as they stand there; of two that are the same number the first one stays.
		{[]int64{-1}, -1}, {[]int64{65536}, 65536}, {[]int64{-1, 65535}, -1}, {[]int64{5, 65541}, 5}, {[]int64{65535, 65537}, 65537},
		{[]int64{math.MaxInt64, math.MinInt64}, math.MinInt64}, {[]int64{math.MinInt64, math.MaxInt64}, math.MinInt64},
	}
	for _, row := range rows {
		if got := impl.MoreOf(row.list); got != row.want {
			t.Errorf("MoreOf(%v) = %d, want %d", row.list, got, row.want)
		}
	}
}

func TestMoreOfAgainstModel(t *testing.T) {
	edges := edgeNumbers()
	for shift := range edges {
		for stride := 1; stride <= 7; stride++ {
			var list []int64
			for i := 0; i < 9; i++ {
				list = append(list, edges[(shift+i*stride)%len(edges)])
			}
			want := list[0]
			for _, n := range list {
				if aheadModel(want, n) > 0 {
					want = n
				}
			}
			if got := impl.MoreOf(list); got != want {
				t.Errorf("MoreOf(%v) = %d, want %d", list, got, want)
			}
		}
	}
}

func TestMoreOfLongList(t *testing.T) {
	var list []int64
	for n := int64(0); n <= 200000; n++ {
		list = append(list, n)
	}
	if got := impl.MoreOf(list); got != 200000 {
		t.Errorf("MoreOf of 0 to 200000 = %d", got)
	}
}

func TestUnwrapNear(t *testing.T) {
	const most = 1000000000
	rows := []struct{ a, near, code, value int64 }{
		{5, 65530, impl.OK, 65541}, {65535, 65536, impl.OK, 65535}, {7, 7, impl.OK, 7}, {10, 3, impl.OK, 10}, {3, 10, impl.OK, 3},
		{0, 0, impl.OK, 0}, {32767, 0, impl.OK, 32767}, {65536, 0, impl.OK, 0}, {-65535, 0, impl.OK, 1},
		{65535, 0, impl.ErrNone, 0}, {-1, 0, impl.ErrNone, 0}, {32768, 0, impl.ErrNone, 0}, {32769, 0, impl.ErrNone, 0},
		{0, 32768, impl.OK, 0}, {65535, 32767, impl.ErrNone, 0}, {65535, 32766, impl.ErrNone, 0}, {65535, 32768, impl.OK, 65535},
		{most, most, impl.OK, most}, {most + 32767, most, impl.OK, most + 32767}, {most + 32768, most, impl.OK, most - 32768}, {most - 1, most, impl.OK, most - 1},
		{0, -1, impl.ErrRange, 0}, {65535, -1, impl.ErrRange, 0}, {5, most + 1, impl.ErrRange, 0}, {most + 1, most + 1, impl.ErrRange, 0},
		{5, math.MinInt64, impl.ErrRange, 0}, {5, math.MaxInt64, impl.ErrRange, 0},
		{math.MaxInt64, 65536, impl.OK, 65535}, {math.MinInt64, 65536, impl.OK, 65536}, {math.MaxInt64, 0, impl.ErrNone, 0},
	}
	for _, row := range rows {
		want := impl.IntResult{Code: row.code, Value: row.value}
		if got := impl.UnwrapNear(row.a, row.near); got != want {
			t.Errorf("UnwrapNear(%d, %d) = %v, want %v", row.a, row.near, got, want)
		}
	}
}

func TestUnwrapNearAgainstModel(t *testing.T) {
	for _, a := range edgeNumbers() {
		for _, near := range edgeNumbers() {
			want := impl.IntResult{Code: impl.ErrRange}
			if near >= 0 && near <= 1000000000 {
				want = impl.IntResult{Value: near + aheadModel(near, a)}
				if want.Value < 0 {
					want = impl.IntResult{Code: impl.ErrNone}
				}
			}
			if got := impl.UnwrapNear(a, near); got != want {
				t.Errorf("UnwrapNear(%d, %d) = %v, want %v", a, near, got, want)
			}
		}
	}
}

// checkFound holds what promise 2 says of one pair of numbers.
func checkFound(t *testing.T, a int64, b int64) {
	t.Helper()
	ahead := impl.Ahead(a, b)
	if got := impl.AddNumber(a, ahead); got != impl.WrapNumber(b) {
		t.Errorf("AddNumber(%d, Ahead of it and %d) = %d, want %d", a, b, got, impl.WrapNumber(b))
	}
	if ahead < -32768 || ahead > 32767 {
		t.Errorf("Ahead(%d, %d) = %d is more than half of the way round", a, b, ahead)
	}
	if impl.IsAhead(a, b) != (ahead > 0) {
		t.Errorf("IsAhead(%d, %d) is not where Ahead is above 0: %d", a, b, ahead)
	}
	found := impl.UnwrapNear(b, a)
	if found.Code != impl.OK {
		if found.Value != 0 {
			t.Errorf("UnwrapNear(%d, %d) tells %d beside the code %d", b, a, found.Value, found.Code)
		}
		inBounds := a >= 0 && a <= 1000000000
		if inBounds && a+ahead >= 0 {
			t.Errorf("UnwrapNear(%d, %d) finds nothing, code %d", b, a, found.Code)
		}
		return
	}
	if found.Value < 0 || found.Value != a+ahead || impl.WrapNumber(found.Value) != impl.WrapNumber(b) {
		t.Errorf("UnwrapNear(%d, %d) = %d", b, a, found.Value)
	}
}

func TestPromise2AddedIsAheadAndFoundAgain(t *testing.T) {
	for _, a := range edgeNumbers() {
		for _, b := range edgeNumbers() {
			checkFound(t, a, b)
		}
	}
	for a := int64(0); a < 200000; a += 997 {
		for step := int64(-33000); step <= 33000; step += 331 {
			checkFound(t, a, a+step)
			if step >= -32768 && step <= 32767 && impl.Ahead(a, impl.AddNumber(a, step)) != step {
				t.Errorf("what is %d behind %d is ahead by %d", step, a, impl.Ahead(a, impl.AddNumber(a, step)))
			}
		}
	}
}

// A place is found again from its number alone, as long as what is near is less than half of the way round off.
func TestPromise2PlaceIsFoundAgain(t *testing.T) {
	for _, place := range []int64{0, 1, 32767, 32768, 65535, 65536, 65537, 999999, 500000000, 1000000000} {
		for _, off := range []int64{-32767, -32766, -100, -1, 0, 1, 100, 32767, 32768} {
			near := place + off
			if near < 0 || near > 1000000000 {
				continue
			}
			got := impl.UnwrapNear(impl.WrapNumber(place), near)
			if got != (impl.IntResult{Code: impl.OK, Value: place}) {
				t.Errorf("UnwrapNear of %d near %d = %v", place, near, got)
			}
		}
	}
}

func TestPromise1ListIsNotChanged(t *testing.T) {
	back := []int64{65530, 3, 65535, math.MinInt64, math.MaxInt64, 77, 78}
	kept := slices.Clone(back)
	list := back[:5]
	first := impl.MoreOf(list)
	if !slices.Equal(back, kept) {
		t.Errorf("MoreOf changed its list: %v, was %v", back, kept)
	}
	if again := impl.MoreOf(list); again != first {
		t.Errorf("MoreOf tells %d, then %d", first, again)
	}
}

// What is answered hangs on the arguments alone: whatever was called between, a call answers the same again.
func TestPromise1SameArgumentsSameAnswers(t *testing.T) {
	type answers struct {
		wrap, add, ahead, more int64
		isAhead, inSpan        bool
		near                   impl.IntResult
	}
	ask := func(a int64, b int64) answers {
		return answers{
			wrap: impl.WrapNumber(a), add: impl.AddNumber(a, b), ahead: impl.Ahead(a, b), more: impl.MoreOf([]int64{a, b}),
			isAhead: impl.IsAhead(a, b), inSpan: impl.InSpan(a, b, 40000), near: impl.UnwrapNear(a, b),
		}
	}
	var first []answers
	for _, a := range edgeNumbers() {
		for _, b := range edgeNumbers() {
			first = append(first, ask(a, b))
		}
	}
	at := 0
	for _, a := range edgeNumbers() {
		for _, b := range edgeNumbers() {
			if ask(a, b) != first[at] {
				t.Errorf("of %d and %d: %v, then %v", a, b, first[at], ask(a, b))
			}
			at++
		}
	}
}
