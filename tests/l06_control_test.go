package tests

import (
	"math"
	"math/rand"
	"slices"
	"sort"
	"testing"

	"loop.example/g00230/impl"
)

func isWindow(n int64) bool { return n >= 8 && n <= 64 }

func controlFaultModel(c impl.Control) int64 {
	if !isWindow(c.Window) || c.Bound < 0 || c.Bound > 64 || c.Part < 0 || c.Part > 63 {
		return impl.ErrRange
	}
	return impl.OK
}

// byModel finds a number of parts by trying: the greatest that windows times it is not above acked times 512.
func byModel(acked int64, windows int64) int64 {
	return int64(sort.Search(64002, func(n int) bool { return int64(n+1)*windows > acked*512 }))
}

func gainModel(window int64, acked int64, others []int64) impl.IntResult {
	wrong := func(n int64) bool { return !isWindow(n) }
	if wrong(window) || acked < 0 || acked > 1000 || len(others) >= 4 || slices.ContainsFunc(others, wrong) {
		return impl.IntResult{Code: impl.ErrRange}
	}
	all := window
	for _, other := range others {
		all += other
	}
	return impl.IntResult{Value: min(byModel(acked, window), byModel(acked, all))}
}

// growModel goes byte by byte and 64 parts by 64 parts, as the document tells it.
func growModel(c impl.Control, acked int64, others []int64) impl.ControlResult {
	if controlFaultModel(c) != impl.OK {
		return impl.ControlResult{Code: impl.ErrRange}
	}
	gain := gainModel(c.Window, acked, others)
	if gain.Code != impl.OK {
		return impl.ControlResult{Code: gain.Code}
	}
	if c.Window < c.Bound {
		for n := acked; n > 0 && c.Window < c.Bound; n-- {
			c.Window++
		}
	} else {
		for c.Part += gain.Value; c.Part >= 64; c.Part -= 64 {
			c.Window++
		}
	}
	if c.Window >= 64 {
		c.Window, c.Part = 64, 0
	}
	return impl.ControlResult{Control: c}
}

func halfModel(c impl.Control) int64 {
	for half := int64(8); ; half++ {
		if 2*half > c.Window-2 {
			return half
		}
	}
}

func cutModel(c impl.Control) impl.ControlResult {
	if controlFaultModel(c) != impl.OK {
		return impl.ControlResult{Code: impl.ErrRange}
	}
	return impl.ControlResult{Control: impl.Control{Window: halfModel(c), Bound: halfModel(c)}}
}

func fallModel(c impl.Control) impl.ControlResult {
	if controlFaultModel(c) != impl.OK {
		return impl.ControlResult{Code: impl.ErrRange}
	}
	return impl.ControlResult{Control: impl.Control{Window: 8, Bound: halfModel(c)}}
}

func startControlModel(window int64) impl.ControlResult {
	if !isWindow(window) {
		return impl.ControlResult{Code: impl.ErrRange}
	}
	return impl.ControlResult{Control: impl.Control{Window: window, Bound: 64}}
}

// everyControl tells each control without a fault.
func everyControl(yield func(impl.Control) bool) {
	for window := int64(8); window <= 64; window++ {
		for bound := int64(0); bound <= 64; bound++ {
			for part := int64(0); part <= 63; part++ {
				if !yield(impl.Control{Window: window, Bound: bound, Part: part}) {
					return
				}
			}
		}
	}
}

// edgeControls are controls at and beside each bound, most with a fault or with several.
func edgeControls() (list []impl.Control) {
	for _, window := range aroundOf(8, 16, 32, 64, 0) {
		for _, bound := range aroundOf(0, 8, 17, 64) {
			for _, part := range aroundOf(0, 32, 63) {
				list = append(list, impl.Control{Window: window, Bound: bound, Part: part})
			}
		}
	}
	return list
}

// fewControls are those of the edges that lie at just one place of each kind: few enough to be asked together with many acks and others.
func fewControls() (list []impl.Control) {
	for _, window := range []int64{math.MinInt64, -16, 0, 7, 8, 9, 40, 63, 64, 65, math.MaxInt64} {
		for _, bound := range []int64{math.MinInt64, -1, 0, 8, 41, 63, 64, 65, math.MaxInt64} {
			for _, part := range []int64{math.MinInt64, -1, 0, 40, 63, 64, math.MaxInt64} {
				list = append(list, impl.Control{Window: window, Bound: bound, Part: part})
			}
		}
	}
	return list
}

func rightOthers() [][]int64 {
	return [][]int64{
		nil, {}, {8}, {64}, {16}, {9}, {63}, {33},
		{8, 8}, {64, 64}, {8, 64}, {64, 8}, {17, 30},
		{8, 8, 8}, {64, 64, 64}, {8, 64, 16}, {64, 16, 8}, {21, 22, 23},
	}
}

func wrongOthers() [][]int64 {
	return [][]int64{
		{7}, {65}, {0}, {-8}, {math.MinInt64}, {math.MaxInt64},
		{7, 8}, {8, 7}, {65, 64}, {64, 65}, {0, 16}, {-16, 32}, {32, -16}, {math.MaxInt64, math.MaxInt64}, {math.MinInt64, math.MinInt64},
		{7, 8, 9}, {8, 7, 9}, {8, 9, 7}, {65, 8, 8}, {8, 65, 8}, {8, 8, 65}, {math.MaxInt64, math.MinInt64, 16}, {16, 16, math.MaxInt64}, {16, 16, math.MinInt64},
		{8, 8, 8, 8}, {16, 16, 16, 16}, {64, 64, 64, 64}, {7, 7, 7, 7}, {8, 8, 8, 65}, {8, 8, 8, 0}, {0, 0, 0, 0}, {8, 8, 8, 8, 8}, slices.Repeat([]int64{16}, 1000),
	}
}

func everyOthers() [][]int64 { return append(rightOthers(), wrongOthers()...) }

func ackedEdges() []int64 { return append(aroundOf(0, 8, 1000), 17, 63, 500) }

func TestControlConstants(t *testing.T) {
	if impl.WindowLeast != 8 || impl.WindowMost != 64 {
		t.Error("a constant of chapter 6 is not right")
	}
}

func TestControlFault(t *testing.T) {
	rows := []struct {
		window, bound, part int64
		want                int64
	}{
		{8, 0, 0, 0}, {64, 64, 63, 0}, {8, 64, 63, 0}, {64, 0, 0, 0}, {16, 64, 0, 0}, {30, 7, 1, 0}, {8, 8, 0, 0}, {64, 63, 62, 0},
		{7, 0, 0, impl.ErrRange}, {65, 0, 0, impl.ErrRange}, {0, 0, 0, impl.ErrRange}, {-8, 8, 0, impl.ErrRange},
		{8, -1, 0, impl.ErrRange}, {8, 65, 0, impl.ErrRange}, {64, -1, 63, impl.ErrRange}, {64, 65, 63, impl.ErrRange},
		{8, 0, -1, impl.ErrRange}, {8, 0, 64, impl.ErrRange}, {64, 64, -1, impl.ErrRange}, {64, 64, 64, impl.ErrRange},
		{7, -1, -1, impl.ErrRange}, {65, 65, 64, impl.ErrRange}, {7, 65, 0, impl.ErrRange}, {65, 8, 64, impl.ErrRange}, {8, -1, 64, impl.ErrRange},
		{math.MinInt64, 0, 0, impl.ErrRange}, {math.MaxInt64, 64, 63, impl.ErrRange}, {8, math.MinInt64, 0, impl.ErrRange}, {8, math.MaxInt64, 0, impl.ErrRange},
		{8, 0, math.MinInt64, impl.ErrRange}, {8, 0, math.MaxInt64, impl.ErrRange}, {8 + 1<<32, 0, 0, impl.ErrRange}, {8, 1 << 32, 0, impl.ErrRange}, {8, 0, 256, impl.ErrRange},
	}
	for _, row := range rows {
		c := impl.Control{Window: row.window, Bound: row.bound, Part: row.part}
		if got := impl.ControlFault(c); got != row.want {
			t.Errorf("ControlFault(%+v) = %d, want %d", c, got, row.want)
		}
	}
	for c := range everyControl {
		if got := impl.ControlFault(c); got != impl.OK {
			t.Fatalf("ControlFault(%+v) = %d", c, got)
		}
	}
	for _, c := range edgeControls() {
		if got := impl.ControlFault(c); got != controlFaultModel(c) {
			t.Errorf("ControlFault(%+v) = %d", c, got)
		}
	}
}

func TestStartControl(t *testing.T) {
	for window := int64(-300); window <= 300; window++ {
		if got := impl.StartControl(window); got != startControlModel(window) {
			t.Errorf("StartControl(%d) = %+v", window, got)
		}
	}
	for _, window := range aroundOf(8, 64, 8+1<<32, 16-1<<32, 264) {
		if got := impl.StartControl(window); got != startControlModel(window) {
			t.Errorf("StartControl(%d) = %+v", window, got)
		}
	}
	if got := impl.StartControl(16); got != (impl.ControlResult{Control: impl.Control{Window: 16, Bound: 64, Part: 0}}) {
		t.Errorf("StartControl(16) = %+v", got)
	}
}

func TestGainOf(t *testing.T) {
	rows := []struct {
		window, acked int64
		others        []int64
		want          int64
	}{
		{16, 8, nil, 256}, {16, 8, []int64{16}, 128}, {16, 8, []int64{}, 256}, {16, 0, nil, 0}, {16, 0, []int64{8, 8, 8}, 0},
		{8, 1, nil, 64}, {64, 1, nil, 8}, {63, 1, nil, 8}, {9, 1, nil, 56}, {57, 1, nil, 8}, {56, 1, nil, 9},
		{8, 1000, nil, 64000}, {64, 1000, nil, 8000}, {8, 1000, []int64{8}, 32000}, {64, 1000, []int64{64, 64, 64}, 2000},
		{8, 1, []int64{64}, 7}, {64, 1, []int64{8}, 7}, {64, 1, []int64{64, 64, 64}, 2}, {64, 1, []int64{64, 64, 63}, 2}, {8, 1, []int64{8, 8, 8}, 16},
		{16, 3, []int64{17, 18}, 30}, {16, 3, []int64{18, 17}, 30}, {10, 7, []int64{20, 30, 40}, 35},
	}
	for _, row := range rows {
		if got := impl.GainOf(row.window, row.acked, row.others); got != (impl.IntResult{Value: row.want}) {
			t.Errorf("GainOf(%d, %d, %v) = %v, want %d", row.window, row.acked, row.others, got, row.want)
		}
	}
}

func TestGainOfWrong(t *testing.T) {
	wrong := impl.IntResult{Code: impl.ErrRange}
	for _, window := range []int64{7, 65, 0, -1, -16, math.MinInt64, math.MaxInt64} {
		if got := impl.GainOf(window, 8, nil); got != wrong {
			t.Errorf("GainOf(%d, 8, nil) = %v", window, got)
		}
	}
	for _, acked := range []int64{-1, 1001, -1000, math.MinInt64, math.MaxInt64, math.MaxInt64/512 + 1} {
		if got := impl.GainOf(16, acked, nil); got != wrong {
			t.Errorf("GainOf(16, %d, nil) = %v", acked, got)
		}
	}
	for _, others := range wrongOthers() {
		for _, acked := range []int64{0, 8, 1000, -1} {
			if got := impl.GainOf(16, acked, others); got != wrong {
				t.Errorf("GainOf(16, %d, %v) = %v", acked, others, got)
			}
		}
	}
}

func TestGainOfAgainstModel(t *testing.T) {
	for window := int64(8); window <= 64; window++ {
		for _, others := range rightOthers() {
			for acked := int64(0); acked <= 1000; acked += 1 + acked/100 {
				if got := impl.GainOf(window, acked, others); got != gainModel(window, acked, others) {
					t.Fatalf("GainOf(%d, %d, %v) = %v, want %v", window, acked, others, got, gainModel(window, acked, others))
				}
			}
		}
	}
	for _, window := range aroundOf(8, 16, 64, 0) {
		for _, acked := range ackedEdges() {
			for _, others := range everyOthers() {
				if got := impl.GainOf(window, acked, others); got != gainModel(window, acked, others) {
					t.Fatalf("GainOf(%d, %d, %v) = %v, want %v", window, acked, others, got, gainModel(window, acked, others))
				}
			}
		}
	}
}

func TestGrowControl(t *testing.T) {
	rows := []struct {
		c      impl.Control
		acked  int64
		others []int64
		want   impl.Control
	}{
		{impl.Control{Window: 16, Bound: 64}, 8, nil, impl.Control{Window: 24, Bound: 64}},
		{impl.Control{Window: 16, Bound: 64}, 8, []int64{16, 16, 16}, impl.Control{Window: 24, Bound: 64}},
		{impl.Control{Window: 16, Bound: 64}, 0, nil, impl.Control{Window: 16, Bound: 64}},
		{impl.Control{Window: 16, Bound: 20}, 4, nil, impl.Control{Window: 20, Bound: 20}},
		{impl.Control{Window: 16, Bound: 20}, 5, nil, impl.Control{Window: 20, Bound: 20}},
		{impl.Control{Window: 16, Bound: 20}, 1000, nil, impl.Control{Window: 20, Bound: 20}},
		{impl.Control{Window: 16, Bound: 17}, 1, nil, impl.Control{Window: 17, Bound: 17}},
		{impl.Control{Window: 16, Bound: 20, Part: 63}, 3, nil, impl.Control{Window: 19, Bound: 20, Part: 63}},
		{impl.Control{Window: 16, Bound: 20, Part: 63}, 30, nil, impl.Control{Window: 20, Bound: 20, Part: 63}},
		{impl.Control{Window: 16, Bound: 64, Part: 63}, 47, nil, impl.Control{Window: 63, Bound: 64, Part: 63}},
		{impl.Control{Window: 16, Bound: 64, Part: 63}, 48, nil, impl.Control{Window: 64, Bound: 64}},
		{impl.Control{Window: 63, Bound: 64, Part: 1}, 1, nil, impl.Control{Window: 64, Bound: 64}},
		{impl.Control{Window: 16, Bound: 16}, 8, nil, impl.Control{Window: 20, Bound: 16}},
		{impl.Control{Window: 16, Bound: 16}, 8, []int64{16}, impl.Control{Window: 18, Bound: 16}},
		{impl.Control{Window: 16, Bound: 15}, 1, nil, impl.Control{Window: 16, Bound: 15, Part: 32}},
		{impl.Control{Window: 16, Bound: 15, Part: 31}, 1, nil, impl.Control{Window: 16, Bound: 15, Part: 63}},
		{impl.Control{Window: 16, Bound: 15, Part: 32}, 1, nil, impl.Control{Window: 17, Bound: 15}},
		{impl.Control{Window: 16, Bound: 0, Part: 33}, 1, nil, impl.Control{Window: 17, Bound: 0, Part: 1}},
		{impl.Control{Window: 16, Bound: 0, Part: 63}, 0, nil, impl.Control{Window: 16, Bound: 0, Part: 63}},
		{impl.Control{Window: 12, Bound: 12}, 6, nil, impl.Control{Window: 16, Bound: 12}},
		{impl.Control{Window: 8, Bound: 0}, 1000, nil, impl.Control{Window: 64, Bound: 0}},
		{impl.Control{Window: 63, Bound: 0, Part: 55}, 1, nil, impl.Control{Window: 63, Bound: 0, Part: 63}},
		{impl.Control{Window: 63, Bound: 0, Part: 56}, 1, nil, impl.Control{Window: 64, Bound: 0}},
		{impl.Control{Window: 63, Bound: 0, Part: 60}, 1, nil, impl.Control{Window: 64, Bound: 0}},
		{impl.Control{Window: 64, Bound: 0}, 1, nil, impl.Control{Window: 64, Bound: 0}},
		{impl.Control{Window: 64, Bound: 64, Part: 63}, 0, nil, impl.Control{Window: 64, Bound: 64}},
		{impl.Control{Window: 64, Bound: 63, Part: 1}, 0, []int64{8}, impl.Control{Window: 64, Bound: 63}},
		{impl.Control{Window: 64, Bound: 64}, 1000, []int64{64, 64, 64}, impl.Control{Window: 64, Bound: 64}},
	}
	for _, row := range rows {
		if got := impl.GrowControl(row.c, row.acked, row.others); got != (impl.ControlResult{Control: row.want}) {
			t.Errorf("GrowControl(%+v, %d, %v) = %+v, want %+v", row.c, row.acked, row.others, got, row.want)
		}
	}
}

// The codes of GainOf are asked also where a control grows without it.
func TestGrowControlWrong(t *testing.T) {
	wrong := impl.ControlResult{Code: impl.ErrRange}
	for _, c := range []impl.Control{{Window: 16, Bound: 64}, {Window: 16, Bound: 16}, {Window: 64, Bound: 64}, {Window: 8, Bound: 64, Part: 63}} {
		for _, acked := range []int64{-1, 1001, math.MinInt64, math.MaxInt64} {
			if got := impl.GrowControl(c, acked, nil); got != wrong {
				t.Errorf("GrowControl(%+v, %d, nil) = %+v", c, acked, got)
			}
		}
		for _, others := range wrongOthers() {
			for _, acked := range []int64{0, 8, 1000, -1} {
				if got := impl.GrowControl(c, acked, others); got != wrong {
					t.Errorf("GrowControl(%+v, %d, %v) = %+v", c, acked, others, got)
				}
			}
		}
	}
	for _, c := range edgeControls() {
		if got := impl.GrowControl(c, 8, nil); controlFaultModel(c) != impl.OK && got != wrong {
			t.Errorf("GrowControl(%+v, 8, nil) = %+v", c, got)
		}
	}
}

func TestGrowControlAgainstModel(t *testing.T) {
	for _, c := range fewControls() {
		for _, acked := range ackedEdges() {
			for _, others := range everyOthers() {
				if got := impl.GrowControl(c, acked, others); got != growModel(c, acked, others) {
					t.Fatalf("GrowControl(%+v, %d, %v) = %+v, want %+v", c, acked, others, got, growModel(c, acked, others))
				}
			}
		}
	}
	draw := rand.New(rand.NewSource(6))
	for range 300000 {
		c := impl.Control{Window: 8 + draw.Int63n(57), Bound: draw.Int63n(65), Part: draw.Int63n(64)}
		acked := draw.Int63n([]int64{10, 100, 1001}[draw.Intn(3)])
		others := drawnOthers(draw)
		if got := impl.GrowControl(c, acked, others); got != growModel(c, acked, others) {
			t.Fatalf("GrowControl(%+v, %d, %v) = %+v, want %+v", c, acked, others, got, growModel(c, acked, others))
		}
	}
}

func drawnOthers(draw *rand.Rand) (others []int64) {
	for range draw.Intn(4) {
		others = append(others, 8+draw.Int63n(57))
	}
	return others
}

func TestCutAndFallControl(t *testing.T) {
	rows := []struct {
		c         impl.Control
		cut, fall impl.Control
	}{
		{impl.Control{Window: 8, Bound: 64, Part: 63}, impl.Control{Window: 8, Bound: 8}, impl.Control{Window: 8, Bound: 8}},
		{impl.Control{Window: 15, Bound: 64}, impl.Control{Window: 8, Bound: 8}, impl.Control{Window: 8, Bound: 8}},
		{impl.Control{Window: 16, Bound: 0}, impl.Control{Window: 8, Bound: 8}, impl.Control{Window: 8, Bound: 8}},
		{impl.Control{Window: 17, Bound: 17, Part: 1}, impl.Control{Window: 8, Bound: 8}, impl.Control{Window: 8, Bound: 8}},
		{impl.Control{Window: 18, Bound: 64}, impl.Control{Window: 9, Bound: 9}, impl.Control{Window: 8, Bound: 9}},
		{impl.Control{Window: 19, Bound: 5, Part: 9}, impl.Control{Window: 9, Bound: 9}, impl.Control{Window: 8, Bound: 9}},
		{impl.Control{Window: 24, Bound: 64}, impl.Control{Window: 12, Bound: 12}, impl.Control{Window: 8, Bound: 12}},
		{impl.Control{Window: 63, Bound: 1, Part: 63}, impl.Control{Window: 31, Bound: 31}, impl.Control{Window: 8, Bound: 31}},
		{impl.Control{Window: 64, Bound: 64}, impl.Control{Window: 32, Bound: 32}, impl.Control{Window: 8, Bound: 32}},
	}
	for _, row := range rows {
		if got := impl.CutControl(row.c); got != (impl.ControlResult{Control: row.cut}) {
			t.Errorf("CutControl(%+v) = %+v, want %+v", row.c, got, row.cut)
		}
		if got := impl.FallControl(row.c); got != (impl.ControlResult{Control: row.fall}) {
			t.Errorf("FallControl(%+v) = %+v, want %+v", row.c, got, row.fall)
		}
	}
	for _, c := range append(edgeControls(), slices.Collect(everyControl)...) {
		if got := impl.CutControl(c); got != cutModel(c) {
			t.Fatalf("CutControl(%+v) = %+v, want %+v", c, got, cutModel(c))
		}
		if got := impl.FallControl(c); got != fallModel(c) {
			t.Fatalf("FallControl(%+v) = %+v, want %+v", c, got, fallModel(c))
		}
	}
}
