package tests

import (
	"math"
	"math/rand"
	"slices"
	"testing"

	"loop.example/g00230/impl"
)

func isAheadOf(a impl.Control, b impl.Control) bool {
	return a.Window > b.Window || a.Window == b.Window && a.Part > b.Part
}

// checkBounds wants what was made of a control without a fault to have none, and no part at the most where it grew.
func checkBounds(t *testing.T, name string, c impl.Control, got impl.ControlResult) {
	t.Helper()
	if got.Code != impl.OK || impl.ControlFault(got.Control) != impl.OK || controlFaultModel(got.Control) != impl.OK {
		t.Fatalf("%s of %+v = %+v", name, c, got)
	}
	if got.Control.Window == 64 && got.Control.Part != 0 {
		t.Fatalf("%s of %+v has a part at the most: %+v", name, c, got)
	}
}

// checkGrown holds a control that grew against what came there, without asking how.
func checkGrown(t *testing.T, c impl.Control, acked int64, others []int64) impl.Control {
	t.Helper()
	got := impl.GrowControl(c, acked, others)
	checkBounds(t, "GrowControl", c, got)
	g := got.Control
	switch {
	case g.Bound != c.Bound || g.Window < c.Window:
		t.Fatalf("GrowControl(%+v, %d, %v) = %+v", c, acked, others, g)
	case c.Window < c.Bound:
		left := c.Part
		if g.Window == 64 {
			left = 0
		}
		if g.Window != min(c.Window+acked, c.Bound) || g.Part != left {
			t.Fatalf("below its Bound GrowControl(%+v, %d, %v) = %+v", c, acked, others, g)
		}
	case g.Window < 64:
		gain := impl.GainOf(c.Window, acked, others).Value
		if 64*g.Window+g.Part != 64*c.Window+c.Part+gain {
			t.Fatalf("by %d parts GrowControl(%+v, %d, %v) = %+v", gain, c, acked, others, g)
		}
	default:
		gain := impl.GainOf(c.Window, acked, others).Value
		if 64*c.Window+c.Part+gain < 64*64 {
			t.Fatalf("by %d parts GrowControl(%+v, %d, %v) = %+v", gain, c, acked, others, g)
		}
	}
	return g
}

func TestPromise7WindowsStayWithinTheirBounds(t *testing.T) {
	for window := int64(8); window <= 64; window++ {
		checkBounds(t, "StartControl", impl.Control{Window: window}, impl.StartControl(window))
	}
	for c := range everyControl {
		checkBounds(t, "CutControl", c, impl.CutControl(c))
		checkBounds(t, "FallControl", c, impl.FallControl(c))
	}
}

// Each Window, Bound and Part, beside none to three others, and some of what came there.
func TestPromise7EveryControlGrows(t *testing.T) {
	sets := [][]int64{nil, {8}, {64, 17}, {8, 30, 64}}
	for c := range everyControl {
		for _, acked := range []int64{0, 1, 7, 8, 49, 1000} {
			alone := checkGrown(t, c, acked, nil)
			for _, others := range sets {
				if beside := checkGrown(t, c, acked, others); isAheadOf(beside, alone) {
					t.Fatalf("of %+v and %d: beside %v it is %+v, alone %+v", c, acked, others, beside, alone)
				}
			}
		}
	}
}

// Each number of bytes that may come there, at each Window, below, at and above its Bound.
func TestPromise7EveryAckGrows(t *testing.T) {
	sets := [][]int64{{8}, {64, 64}, {9, 16, 40}}
	for window := int64(8); window <= 64; window++ {
		for _, bound := range []int64{0, window, min(window+9, 64), 64} {
			for _, part := range []int64{0, 63} {
				c := impl.Control{Window: window, Bound: bound, Part: part}
				for acked := int64(0); acked <= 1000; acked++ {
					alone := checkGrown(t, c, acked, nil)
					for _, others := range sets {
						if beside := checkGrown(t, c, acked, others); isAheadOf(beside, alone) {
							t.Fatalf("of %+v and %d: beside %v it is %+v, alone %+v", c, acked, others, beside, alone)
						}
					}
				}
			}
		}
	}
}

// Each other window, and each two of them: one more never lets a control gain more, and their order does not count.
func TestPromise7GainIsNeverAboveThatAlone(t *testing.T) {
	for _, window := range []int64{8, 9, 16, 31, 64} {
		for _, acked := range []int64{0, 1, 8, 13, 64, 999, 1000} {
			alone := impl.GainOf(window, acked, nil)
			for a := int64(8); a <= 64; a++ {
				one := impl.GainOf(window, acked, []int64{a})
				if one.Code != impl.OK || one.Value > alone.Value || one.Value < 0 {
					t.Fatalf("GainOf(%d, %d) is %v alone, beside %d %v", window, acked, alone, a, one)
				}
				for b := int64(8); b <= 64; b++ {
					two := impl.GainOf(window, acked, []int64{a, b})
					three := impl.GainOf(window, acked, []int64{b, 72 - b, a})
					if two.Code != impl.OK || two.Value > one.Value || three.Code != impl.OK || three.Value > two.Value || three.Value < 0 {
						t.Fatalf("GainOf(%d, %d) beside %d is %v, beside %d too %v, beside %d too %v", window, acked, a, one, b, two, 72-b, three)
					}
					if turned := impl.GainOf(window, acked, []int64{b, a}); turned != two {
						t.Fatalf("GainOf(%d, %d) beside %d and %d is %v, changed about %v", window, acked, a, b, two, turned)
					}
				}
			}
		}
	}
}

// What all paths gain together is no more than the one with the least window would gain alone.
func TestPromise7AllPathsTogether(t *testing.T) {
	draw := rand.New(rand.NewSource(77))
	for range 20000 {
		windows := append(drawnOthers(draw), 8+draw.Int63n(57))
		acked := draw.Int63n(1001)
		sum := int64(0)
		for i, window := range windows {
			sum += impl.GainOf(window, acked, slices.Delete(slices.Clone(windows), i, i+1)).Value
		}
		if alone := impl.GainOf(slices.Min(windows), acked, nil); sum > alone.Value {
			t.Fatalf("of %d the paths %v gain %d together, the least alone %v", acked, windows, sum, alone)
		}
	}
}

// Windows that grow, are cut and fall for long, in any order, stay within their bounds.
func TestPromise7ALongWay(t *testing.T) {
	draw := rand.New(rand.NewSource(7))
	most, least := 0, 0
	for window := int64(8); window <= 64; window++ {
		c := impl.StartControl(window).Control
		for range 3000 {
			switch draw.Intn(40) {
			case 0:
				got := impl.CutControl(c)
				checkBounds(t, "CutControl", c, got)
				c = got.Control
			case 1:
				got := impl.FallControl(c)
				checkBounds(t, "FallControl", c, got)
				c = got.Control
			default:
				c = checkGrown(t, c, draw.Int63n(9), drawnOthers(draw))
			}
			if c.Window == 64 {
				most++
			}
			if c.Window == 8 {
				least++
			}
		}
	}
	if most < 1000 || least < 1000 {
		t.Errorf("only %d times at the most, %d at the least", most, least)
	}
}

func TestPromise1OthersAreNotChanged(t *testing.T) {
	for _, others := range everyOthers() {
		back := append(slices.Clone(others), -77, 16, -78)
		kept := slices.Clone(back)
		row := back[:len(others)]
		for _, acked := range ackedEdges() {
			for _, window := range []int64{7, 8, 16, 64, 65, math.MinInt64} {
				impl.GainOf(window, acked, row)
				impl.GrowControl(impl.Control{Window: window, Bound: 16, Part: 5}, acked, row)
				if !slices.Equal(back, kept) {
					t.Fatalf("others %v became %v", kept, back)
				}
			}
		}
	}
}

// What stands in the room behind others is none of them.
func TestPromise1RoomBehindOthers(t *testing.T) {
	for _, others := range rightOthers() {
		back := append(slices.Clone(others), 64, 8, -1, 64)
		c := impl.Control{Window: 16, Bound: 8, Part: 5}
		if got, want := impl.GainOf(16, 8, back[:len(others)]), impl.GainOf(16, 8, slices.Clip(others)); got != want {
			t.Errorf("GainOf beside %v with room behind them is %v, without %v", others, got, want)
		}
		if got, want := impl.GrowControl(c, 8, back[:len(others)]), impl.GrowControl(c, 8, slices.Clip(others)); got != want {
			t.Errorf("GrowControl beside %v with room behind them is %+v, without %+v", others, got, want)
		}
	}
}

func TestPromise1NoOthersAndNil(t *testing.T) {
	for _, c := range fewControls() {
		for _, acked := range ackedEdges() {
			if impl.GainOf(c.Window, acked, nil) != impl.GainOf(c.Window, acked, []int64{}) || impl.GrowControl(c, acked, nil) != impl.GrowControl(c, acked, []int64{}) {
				t.Fatalf("nil and no others are told apart at %+v and %d", c, acked)
			}
		}
	}
}

// With a code all else is zero, and the code is always ErrRange.
func TestPromise1ControlsZeroBesideACode(t *testing.T) {
	count := 0
	for _, c := range fewControls() {
		if fault := impl.ControlFault(c); fault != impl.OK {
			wrong := impl.ControlResult{Code: fault}
			if fault != impl.ErrRange || impl.CutControl(c) != wrong || impl.FallControl(c) != wrong || impl.GrowControl(c, 0, nil) != wrong {
				t.Fatalf("%+v has the fault %d and is cut to %+v, falls to %+v, grows to %+v", c, fault, impl.CutControl(c), impl.FallControl(c), impl.GrowControl(c, 0, nil))
			}
			count++
		}
		for _, acked := range ackedEdges() {
			for _, others := range everyOthers() {
				if got := impl.GainOf(c.Window, acked, others); got.Code != impl.OK && got != (impl.IntResult{Code: impl.ErrRange}) {
					t.Fatalf("GainOf(%d, %d, %v) = %v", c.Window, acked, others, got)
				}
				if got := impl.GrowControl(c, acked, others); got.Code != impl.OK && got != (impl.ControlResult{Code: impl.ErrRange}) {
					t.Fatalf("GrowControl(%+v, %d, %v) = %+v", c, acked, others, got)
				}
			}
		}
	}
	if count < 300 {
		t.Errorf("only %d controls had a fault", count)
	}
}

func TestPromise1ControlsSameArgumentsSameAnswers(t *testing.T) {
	type answer struct {
		grow, cut, fall, start impl.ControlResult
		gain                   impl.IntResult
		fault                  int64
	}
	controls := fewControls()
	sets := everyOthers()
	ask := func() (out []answer) {
		for _, c := range controls {
			for _, others := range sets {
				out = append(out, answer{
					grow: impl.GrowControl(c, 9, others), cut: impl.CutControl(c), fall: impl.FallControl(c), start: impl.StartControl(c.Window),
					gain: impl.GainOf(c.Window, 9, others), fault: impl.ControlFault(c),
				})
			}
		}
		return out
	}
	first := ask()
	for range 3 {
		slices.Reverse(controls)
		slices.Reverse(sets)
		slices.Reverse(first)
		if !slices.Equal(ask(), first) {
			t.Fatal("the same calls are answered otherwise in another order")
		}
	}
}
