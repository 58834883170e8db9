package tests

import (
	"math"
	"math/rand"
	"slices"
	"testing"

	"loop.example/g00230/impl"
)

func netWith(dead []bool, bag ...impl.Segment) impl.Net {
	return impl.Net{Bag: bag, Dead: dead}
}

// deadMarks are of the paths that the bits of a number tell.
func deadMarks(bits int) []bool {
	return []bool{bits%2 == 1, bits/2%2 == 1, bits/4%2 == 1}
}

// manySegmentsOn are so many segments without a fault, each with a Seq of its own, on those paths in turn.
func manySegmentsOn(count int, paths ...int64) (out []impl.Segment) {
	for i := range count {
		g := impl.Segment{Path: paths[i%len(paths)], From: int64(i % 2), Ackd: i%3 == 0, Seq: int64(i), Load: lettersOf(i % 9)}
		if i%4 != 0 {
			g.Opt, g.A, g.B = impl.OptMap, int64(i), int64(i*7)
		}
		out = append(out, g)
	}
	return out
}

func livingPaths(dead []bool) (out []int64) {
	for path, is := range dead {
		if !is {
			out = append(out, int64(path))
		}
	}
	return out
}

func sameList(a []impl.Segment, b []impl.Segment) bool {
	return slices.EqualFunc(a, b, sameFields)
}

func sameNet(a impl.Net, b impl.Net) bool {
	return sameList(a.Bag, b.Bag) && slices.Equal(a.Dead, b.Dead)
}

func sameNets(a impl.NetResult, b impl.NetResult) bool {
	return a.Code == b.Code && sameFields(a.Segment, b.Segment) && sameNet(a.Net, b.Net)
}

func cloneList(list []impl.Segment) []impl.Segment {
	out := slices.Clone(list)
	for i := range out {
		out[i].Load = slices.Clone(out[i].Load)
	}
	return out
}

func cloneNet(n impl.Net) impl.Net {
	return impl.Net{Bag: cloneList(n.Bag), Dead: slices.Clone(n.Dead)}
}

func cloneNets(r impl.NetResult) impl.NetResult {
	r.Segment.Load, r.Net = slices.Clone(r.Segment.Load), cloneNet(r.Net)
	return r
}

func netFaultModel(n impl.Net) int64 {
	switch {
	case len(n.Bag) >= 61:
		return impl.ErrMany
	case len(n.Dead) < 3, len(n.Dead) > 3:
		return impl.ErrForm
	}
	for _, g := range n.Bag {
		if fault := faultModel(g); fault != impl.OK {
			return fault
		}
		if g.Path == 0 && n.Dead[0] || g.Path == 1 && n.Dead[1] || g.Path == 2 && n.Dead[2] {
			return impl.ErrState
		}
	}
	return impl.OK
}

// wire is a net as bytes: each segment as it is packed, and of each path a digit, 1 where it is dead.
type wire struct {
	bag  []string
	dead string
}

// wireOf is only for nets without a fault.
func wireOf(n impl.Net) (w wire) {
	for _, g := range n.Bag {
		w.bag = append(w.bag, string(packModel(g)))
	}
	for _, is := range n.Dead {
		w.dead += string('0' + bit(is, 1))
	}
	return w
}

func netOfWire(w wire) (n impl.Net) {
	for _, packed := range w.bag {
		n.Bag = append(n.Bag, unpackModel([]byte(packed)).Segment)
	}
	for _, digit := range w.dead {
		n.Dead = append(n.Dead, digit == '1')
	}
	return n
}

// put asks of the first byte alone which path it is.
func (w *wire) put(packed string) {
	if len(w.bag) < 60 && w.dead[packed[0]/2] == '0' {
		w.bag = append(w.bag, packed)
	}
}

// turnedBytes is a packed segment with bytes of its own in place of those from there on, and the right sum.
func turnedBytes(packed string, from int, set ...byte) string {
	body := []byte(packed[:len(packed)-2])
	copy(body[from:], set)
	return string(withSum(body))
}

func putNetModel(n impl.Net, list []impl.Segment) impl.NetResult {
	if fault := netFaultModel(n); fault != impl.OK {
		return impl.NetResult{Code: fault}
	}
	if i := slices.IndexFunc(list, func(g impl.Segment) bool { return faultModel(g) != impl.OK }); i >= 0 {
		return impl.NetResult{Code: faultModel(list[i])}
	}
	w := wireOf(n)
	for _, g := range list {
		w.put(string(packModel(g)))
	}
	return impl.NetResult{Net: netOfWire(w)}
}

// atModel is for what is done with the segment at a place; do is asked only where there is one.
func atModel(n impl.Net, at int64, do func(w *wire) impl.NetResult) impl.NetResult {
	if fault := netFaultModel(n); fault != impl.OK {
		return impl.NetResult{Code: fault}
	}
	if at < 0 || at >= int64(len(n.Bag)) {
		return impl.NetResult{Code: impl.ErrNone}
	}
	w := wireOf(n)
	out := do(&w)
	if out.Code == impl.OK {
		out.Net = netOfWire(w)
	}
	return out
}

func takeNetModel(n impl.Net, at int64) impl.NetResult {
	return atModel(n, at, func(w *wire) impl.NetResult {
		taken := unpackModel([]byte(w.bag[at])).Segment
		w.bag = slices.Concat(w.bag[:at], w.bag[at+1:])
		return impl.NetResult{Segment: taken}
	})
}

func copyNetModel(n impl.Net, at int64) impl.NetResult {
	return atModel(n, at, func(w *wire) impl.NetResult {
		if len(w.bag) == 60 {
			return impl.NetResult{Code: impl.ErrMany}
		}
		w.bag = append(w.bag, w.bag[at])
		return impl.NetResult{}
	})
}

func stripNetModel(n impl.Net, at int64) impl.NetResult {
	return atModel(n, at, func(w *wire) impl.NetResult {
		w.bag[at] = turnedBytes(w.bag[at], 8, 0, 0, 0, 0, 0, 0, 0)
		return impl.NetResult{}
	})
}

func alterNetModel(n impl.Net, at int64, place int64, mask int64) impl.NetResult {
	return atModel(n, at, func(w *wire) impl.NetResult {
		packed := w.bag[at]
		if place < 0 || place >= int64(packed[15]) || mask < 1 || mask > 255 {
			return impl.NetResult{Code: impl.ErrRange}
		}
		w.bag[at] = turnedBytes(packed, 16+int(place), packed[16+place]^byte(mask))
		return impl.NetResult{}
	})
}

func killPathModel(n impl.Net, path int64) impl.NetResult {
	if fault := netFaultModel(n); fault != impl.OK {
		return impl.NetResult{Code: fault}
	}
	if path < 0 || path > 2 {
		return impl.NetResult{Code: impl.ErrRange}
	}
	was := wireOf(n)
	w := wire{dead: was.dead[:path] + "1" + was.dead[path+1:]}
	for _, packed := range was.bag {
		w.put(packed)
	}
	return impl.NetResult{Net: netOfWire(w)}
}

// rightNets are without a fault: with each set of dead paths, of no segments, a few, nearly too many and as many as there may be.
func rightNets() (out []impl.Net) {
	for bits := range 8 {
		dead := deadMarks(bits)
		out = append(out, netWith(dead))
		living := livingPaths(dead)
		if len(living) == 0 {
			continue
		}
		for _, count := range []int{1, 2, 9, 58, 59, 60} {
			out = append(out, netWith(slices.Clone(dead), manySegmentsOn(count, living...)...))
		}
	}
	var plain []impl.Segment
	for _, g := range plainSegments() {
		plain = append(plain, g, g)
	}
	return append(out, netWith(deadMarks(0), plain...), netWith(deadMarks(0), plainSegments()[2]), netWith(deadMarks(2), impl.Segment{}))
}

// drawnNets are without a fault, and of up to 60 segments of all kinds.
func drawnNets(count int, seed int64) (out []impl.Net) {
	draw := rand.New(rand.NewSource(seed))
	all := rightSegments(1000)
	for len(out) < count {
		n := impl.Net{Dead: deadMarks(draw.Intn(8) & draw.Intn(8))}
		size := []int{0, 1, 3, 12, 58, 59, 60}[draw.Intn(7)]
		for range 400 {
			if g := all[draw.Intn(len(all))]; len(n.Bag) < size && !n.Dead[g.Path] {
				n.Bag = append(n.Bag, g)
			}
		}
		out = append(out, cloneNet(n))
	}
	return out
}

// netRow is a net with what is wrong of it.
type netRow struct {
	name string
	n    impl.Net
	want int64
}

func netRows() []netRow {
	none, one := deadMarks(0), deadMarks(2)
	bad := func(count int, at int, g impl.Segment) []impl.Segment {
		list := manySegmentsOn(count, 0, 2)
		list[at] = g
		return list
	}
	return []netRow{
		{"nothing on its way", netWith(none), impl.OK},
		{"60 segments", netWith(none, manySegmentsOn(60, 0, 1, 2)...), impl.OK},
		{"60 segments beside a dead path", netWith(one, manySegmentsOn(60, 0, 2)...), impl.OK},
		{"all paths dead", netWith(deadMarks(7)), impl.OK},
		{"61 segments", netWith(none, manySegmentsOn(61, 0, 1, 2)...), impl.ErrMany},
		{"the zero value", impl.Net{}, impl.ErrForm},
		{"Dead of none", netWith([]bool{}), impl.ErrForm},
		{"Dead of 2", netWith([]bool{false, false}), impl.ErrForm},
		{"Dead of 4", netWith([]bool{false, false, false, false}), impl.ErrForm},
		{"Dead of 2 and a segment", netWith([]bool{false, false}, manySegmentsOn(1, 0)...), impl.ErrForm},
		{"Dead of 4 and a segment", netWith([]bool{false, false, false, true}, manySegmentsOn(1, 0)...), impl.ErrForm},
		{"61 segments, Dead of none", netWith(nil, manySegmentsOn(61, 0)...), impl.ErrMany},
		{"61 segments, a fault at the first", netWith(none, bad(61, 0, impl.Segment{Path: 3})...), impl.ErrMany},
		{"61 segments of a dead path", netWith(one, manySegmentsOn(61, 1)...), impl.ErrMany},
		{"Dead of 2, a fault", netWith([]bool{false, false}, impl.Segment{Path: 3}), impl.ErrForm},
		{"Dead of 2, of a dead path", netWith([]bool{true, false}, impl.Segment{}), impl.ErrForm},
		{"Dead of none, a fault of range", netWith(nil, impl.Segment{Seq: -1}), impl.ErrForm},
		{"a fault at the first place", netWith(one, bad(5, 0, impl.Segment{Path: 3})...), impl.ErrRange},
		{"a fault at the last place", netWith(one, bad(5, 4, impl.Segment{Path: -1})...), impl.ErrRange},
		{"a fault at the last of 60", netWith(one, bad(60, 59, impl.Segment{Opt: 5})...), impl.ErrForm},
		{"a Load of 9", netWith(none, impl.Segment{Load: lettersOf(9)}), impl.ErrMany},
		{"the greatest Path", netWith(none, impl.Segment{Path: math.MaxInt64}), impl.ErrRange},
		{"the least Path", netWith(none, impl.Segment{Path: math.MinInt64}), impl.ErrRange},
		{"of a dead path at the first place", netWith(one, bad(5, 0, impl.Segment{Path: 1})...), impl.ErrState},
		{"of a dead path at the last place", netWith(one, bad(5, 4, impl.Segment{Path: 1})...), impl.ErrState},
		{"of a dead path at the last of 60", netWith(one, bad(60, 59, impl.Segment{Path: 1})...), impl.ErrState},
		{"the path 0 dead", netWith(deadMarks(1), impl.Segment{}), impl.ErrState},
		{"the path 2 dead", netWith(deadMarks(4), impl.Segment{Path: 2}), impl.ErrState},
		{"of a dead path, and a fault of its own", netWith(one, impl.Segment{Path: 1, Opt: 5}), impl.ErrForm},
		{"of a dead path ahead of a fault", netWith(one, impl.Segment{Path: 1}, impl.Segment{Path: 3}), impl.ErrState},
		{"a fault ahead of a dead path", netWith(one, impl.Segment{Seq: 65536}, impl.Segment{Path: 1}), impl.ErrRange},
		{"many ahead of range, segment by segment", netWith(none, impl.Segment{Load: lettersOf(9)}, impl.Segment{Path: 3}), impl.ErrMany},
	}
}

func wrongNets() (out []impl.Net) {
	for _, row := range netRows() {
		if row.want != impl.OK {
			out = append(out, row.n)
		}
	}
	return out
}

func TestNetConstants(t *testing.T) {
	if impl.MaxBag != 60 {
		t.Error("a constant of chapter 12 is not as the document has it")
	}
}

func TestNetFault(t *testing.T) {
	for _, row := range netRows() {
		if got := impl.NetFault(row.n); got != row.want {
			t.Errorf("NetFault of %s = %d, want %d", row.name, got, row.want)
		}
	}
}

func TestNetFaultAgainstModel(t *testing.T) {
	for _, g := range manySegments() {
		for _, n := range []impl.Net{netWith(deadMarks(0), g), netWith(deadMarks(6), g), netWith(deadMarks(4), impl.Segment{Path: 1}, g, impl.Segment{Path: 2})} {
			if got, want := impl.NetFault(n), netFaultModel(n); got != want {
				t.Fatalf("NetFault(%+v) = %d, want %d", n, got, want)
			}
		}
	}
	for _, n := range slices.Concat(rightNets(), drawnNets(100, 12)) {
		if got := impl.NetFault(n); got != impl.OK {
			t.Fatalf("NetFault(%+v) = %d", n, got)
		}
	}
}

func TestNewNet(t *testing.T) {
	for bits := range 8 {
		if got := impl.NewNet(deadMarks(bits)); !sameNets(got, impl.NetResult{Net: netWith(deadMarks(bits))}) {
			t.Errorf("NewNet(%v) = %+v", deadMarks(bits), got)
		}
	}
	for _, dead := range [][]bool{nil, {}, {true}, {false, true}, {false, false, false, false}, make([]bool, 60)} {
		if got := impl.NewNet(dead); !sameNets(got, impl.NetResult{Code: impl.ErrForm}) {
			t.Errorf("NewNet(%v) = %+v", dead, got)
		}
	}
}

// With each fault of a net all functions tell it, whatever else they are asked.
func TestNetFaultIsAskedFirst(t *testing.T) {
	for _, row := range netRows() {
		if row.want == impl.OK {
			continue
		}
		want := impl.NetResult{Code: row.want}
		for _, at := range []int64{math.MinInt64, -1, 0, 4, 60, math.MaxInt64} {
			all := []impl.NetResult{
				impl.PutNet(row.n, nil), impl.PutNet(row.n, []impl.Segment{{Path: 3}}), impl.PutNet(row.n, []impl.Segment{{Load: lettersOf(9)}}),
				impl.TakeNet(row.n, at), impl.CopyNet(row.n, at), impl.StripNet(row.n, at), impl.AlterNet(row.n, at, at, at), impl.KillPath(row.n, at),
			}
			for i, got := range all {
				if !sameNets(got, want) {
					t.Errorf("%s, call %d at %d: %+v, want the code %d alone", row.name, i, at, got, row.want)
				}
			}
		}
	}
}

// putLists are lists to put into a net: with faults, of dead paths, of as many as there is room for, and more.
func putLists(n impl.Net) map[string][]impl.Segment {
	room := 60 - len(n.Bag)
	faulty := func(count int, at int, g impl.Segment) []impl.Segment {
		list := manySegmentsOn(count, 0, 1, 2)
		list[at] = g
		return list
	}
	return map[string][]impl.Segment{
		"nil":                                  nil,
		"none":                                 {},
		"one of the path 0":                    manySegmentsOn(1, 0),
		"one of the path 1":                    manySegmentsOn(1, 1),
		"one of the path 2":                    manySegmentsOn(1, 2),
		"of all paths":                         manySegmentsOn(9, 0, 1, 2),
		"the same once more":                   slices.Concat(n.Bag, n.Bag),
		"one less than there is room":          manySegmentsOn(max(0, room-1), 0),
		"as many as there is room":             manySegmentsOn(room, 0),
		"one more than there is room":          manySegmentsOn(room+1, 0),
		"many of all paths":                    manySegmentsOn(200, 2, 1, 0),
		"of the path 1 alone, many":            manySegmentsOn(70, 1),
		"others behind many of the path 1":     slices.Concat(manySegmentsOn(70, 1), manySegmentsOn(5, 0, 2)),
		"a fault at the first":                 faulty(4, 0, impl.Segment{Path: 3}),
		"a fault at the last":                  faulty(4, 3, impl.Segment{Opt: 5}),
		"a fault alone":                        faulty(1, 0, impl.Segment{Load: lettersOf(9)}),
		"a fault behind where there is room":   faulty(room+2, room+1, impl.Segment{End: 1001}),
		"a fault of a path that may be dead":   faulty(4, 2, impl.Segment{Path: 1, A: 1}),
		"two faults, many ahead of range":      slices.Concat(faulty(2, 1, impl.Segment{Load: lettersOf(9)}), faulty(3, 2, impl.Segment{Ack: -1})),
		"two faults, range ahead of form":      slices.Concat(faulty(2, 1, impl.Segment{From: 2}), faulty(3, 2, impl.Segment{Opt: -1})),
		"a fault behind all paths, many times": slices.Concat(manySegmentsOn(100, 0, 1, 2), faulty(1, 0, impl.Segment{Path: math.MinInt64})),
		"a path that is no number of a place":  faulty(3, 1, impl.Segment{Path: math.MaxInt64}),
	}
}

func everyNet() []impl.Net {
	return slices.Concat(rightNets(), drawnNets(60, 120), wrongNets())
}

func TestPutNet(t *testing.T) {
	n := netWith(deadMarks(2), impl.Segment{Path: 2, Load: []byte("x")})
	a, b, c := impl.Segment{Opt: impl.OptKey, A: 3}, impl.Segment{Path: 1}, impl.Segment{Path: 2, Load: []byte{5}}
	if got := impl.PutNet(n, []impl.Segment{a, b, c, b, a}); !sameNets(got, impl.NetResult{Net: netWith(deadMarks(2), n.Bag[0], a, c, a)}) {
		t.Errorf("PutNet = %+v", got)
	}
	full := netWith(deadMarks(2), manySegmentsOn(58, 0, 2)...)
	got := impl.PutNet(full, []impl.Segment{b, a, b, c, a, c})
	if !sameNets(got, impl.NetResult{Net: netWith(deadMarks(2), append(manySegmentsOn(58, 0, 2), a, c)...)}) {
		t.Errorf("PutNet with room for two = %+v", got)
	}
	if again := impl.PutNet(got.Net, []impl.Segment{a}); !sameNets(again, got) {
		t.Errorf("PutNet without room = %+v", again)
	}
	// What would be lost has its fault told, too.
	if got := impl.PutNet(full, []impl.Segment{a, a, a, {Path: 1, Opt: 5}}); !sameNets(got, impl.NetResult{Code: impl.ErrForm}) {
		t.Errorf("PutNet of a fault behind where there is room = %+v", got)
	}
}

func TestPutNetAgainstModel(t *testing.T) {
	lost, kept, refused := 0, 0, 0
	for _, n := range everyNet() {
		for name, list := range putLists(n) {
			got, want := impl.PutNet(n, list), putNetModel(n, list)
			if !sameNets(got, want) {
				t.Fatalf("PutNet of %s into %+v = %+v, want %+v", name, n, got, want)
			}
			switch {
			case got.Code != impl.OK:
				refused++
			case len(got.Net.Bag) == len(n.Bag)+len(list):
				kept++
			default:
				lost++
			}
		}
	}
	if lost < 100 || kept < 100 || refused < 100 {
		t.Errorf("%d lost some, %d none, %d were refused: too few to tell", lost, kept, refused)
	}
}

func TestTakeAndCopyNet(t *testing.T) {
	list := manySegmentsOn(3, 0, 2)
	n := netWith(deadMarks(2), list...)
	for at := range int64(3) {
		left := slices.Delete(slices.Clone(list), int(at), int(at)+1)
		if got := impl.TakeNet(n, at); !sameNets(got, impl.NetResult{Segment: list[at], Net: netWith(n.Dead, left...)}) {
			t.Errorf("TakeNet at %d = %+v", at, got)
		}
		if got := impl.CopyNet(n, at); !sameNets(got, impl.NetResult{Net: netWith(n.Dead, append(slices.Clone(list), list[at])...)}) {
			t.Errorf("CopyNet at %d = %+v", at, got)
		}
	}
	for _, at := range []int64{math.MinInt64, -1, 3, 4, math.MaxInt64} {
		for i, got := range []impl.NetResult{impl.TakeNet(n, at), impl.CopyNet(n, at), impl.StripNet(n, at), impl.AlterNet(n, at, 0, 1)} {
			if !sameNets(got, impl.NetResult{Code: impl.ErrNone}) {
				t.Errorf("call %d at %d = %+v", i, at, got)
			}
		}
	}
	one := netWith(deadMarks(4), impl.Segment{Path: 1, Load: []byte("ab")})
	if got := impl.TakeNet(one, 0); !sameNets(got, impl.NetResult{Segment: one.Bag[0], Net: netWith(deadMarks(4))}) {
		t.Errorf("TakeNet of the only one = %+v", got)
	}
	full := netWith(deadMarks(0), manySegmentsOn(60, 0, 1, 2)...)
	if got := impl.CopyNet(full, 59); !sameNets(got, impl.NetResult{Code: impl.ErrMany}) {
		t.Errorf("CopyNet of 60 = %+v", got)
	}
	if got := impl.CopyNet(full, 60); !sameNets(got, impl.NetResult{Code: impl.ErrNone}) {
		t.Errorf("CopyNet of 60 at no place = %+v", got)
	}
	if got := impl.TakeNet(full, 59); got.Code != impl.OK || len(got.Net.Bag) != 59 {
		t.Errorf("TakeNet of 60 = %+v", got)
	}
}

func TestStripNet(t *testing.T) {
	list := plainSegments()
	n := netWith(deadMarks(0), list...)
	for at, g := range list {
		want := slices.Clone(list)
		g.Opt, g.A, g.B = 0, 0, 0
		want[at] = g
		if got := impl.StripNet(n, int64(at)); !sameNets(got, impl.NetResult{Net: netWith(n.Dead, want...)}) {
			t.Errorf("StripNet at %d = %+v", at, got)
		}
	}
}

func TestAlterNet(t *testing.T) {
	n := netWith(deadMarks(1), impl.Segment{Path: 1}, impl.Segment{Path: 2, Opt: impl.OptMap, A: 5, Load: []byte{5, 0, 255}}, impl.Segment{Path: 1, Load: []byte{5}})
	rows := []struct {
		at, place, mask int64
		code            int64
		load            []byte
	}{
		{1, 0, 1, impl.OK, []byte{4, 0, 255}},
		{1, 1, 255, impl.OK, []byte{5, 255, 255}},
		{1, 2, 255, impl.OK, []byte{5, 0, 0}},
		{1, 2, 128, impl.OK, []byte{5, 0, 127}},
		{1, 0, 6, impl.OK, []byte{3, 0, 255}},
		{1, 0, 0, impl.ErrRange, nil},
		{1, 0, -1, impl.ErrRange, nil},
		{1, 0, 256, impl.ErrRange, nil},
		{1, 0, 257, impl.ErrRange, nil},
		{1, 0, math.MinInt64, impl.ErrRange, nil},
		{1, 0, math.MaxInt64, impl.ErrRange, nil},
		{1, 3, 1, impl.ErrRange, nil},
		{1, -1, 1, impl.ErrRange, nil},
		{1, math.MinInt64, 1, impl.ErrRange, nil},
		{1, math.MaxInt64, 1, impl.ErrRange, nil},
		{0, 0, 1, impl.ErrRange, nil},
		{2, 1, 1, impl.ErrRange, nil},
		{3, 0, 1, impl.ErrNone, nil},
		{3, 9, 0, impl.ErrNone, nil},
		{-1, -1, -1, impl.ErrNone, nil},
	}
	for _, row := range rows {
		want := impl.NetResult{Code: row.code}
		if row.code == impl.OK {
			want.Net = cloneNet(n)
			want.Net.Bag[row.at].Load = row.load
		}
		if got := impl.AlterNet(n, row.at, row.place, row.mask); !sameNets(got, want) {
			t.Errorf("AlterNet at %d, %d by %d = %+v, want %+v", row.at, row.place, row.mask, got, want)
		}
	}
}

func TestKillPath(t *testing.T) {
	list := manySegmentsOn(6, 0, 1, 2)
	n := netWith(deadMarks(0), list...)
	if got := impl.KillPath(n, 1); !sameNets(got, impl.NetResult{Net: netWith(deadMarks(2), list[0], list[2], list[3], list[5])}) {
		t.Errorf("KillPath of the path 1 = %+v", got)
	}
	if got := impl.KillPath(netWith(deadMarks(3), impl.Segment{Path: 2}), 2); !sameNets(got, impl.NetResult{Net: netWith(deadMarks(7))}) {
		t.Errorf("KillPath of the last path = %+v", got)
	}
	dead := netWith(deadMarks(2), list[0], list[2])
	if got := impl.KillPath(dead, 1); !sameNets(got, impl.NetResult{Net: dead}) {
		t.Errorf("KillPath of a dead path = %+v", got)
	}
	for _, path := range []int64{math.MinInt64, -1, 3, 4, 1 << 32, math.MaxInt64} {
		if got := impl.KillPath(n, path); !sameNets(got, impl.NetResult{Code: impl.ErrRange}) {
			t.Errorf("KillPath of %d = %+v", path, got)
		}
	}
}

// placesOf are the places of a net, and those beside them.
func placesOf(n impl.Net) []int64 {
	return append(aroundOf(0, 7, int64(len(n.Bag))/2, int64(len(n.Bag))), 60)
}

func TestNetsAgainstModel(t *testing.T) {
	for _, n := range everyNet() {
		for _, at := range placesOf(n) {
			if got, want := impl.TakeNet(n, at), takeNetModel(n, at); !sameNets(got, want) {
				t.Fatalf("TakeNet(%+v, %d) = %+v, want %+v", n, at, got, want)
			}
			if got, want := impl.CopyNet(n, at), copyNetModel(n, at); !sameNets(got, want) {
				t.Fatalf("CopyNet(%+v, %d) = %+v, want %+v", n, at, got, want)
			}
			if got, want := impl.StripNet(n, at), stripNetModel(n, at); !sameNets(got, want) {
				t.Fatalf("StripNet(%+v, %d) = %+v, want %+v", n, at, got, want)
			}
			if got, want := impl.KillPath(n, at), killPathModel(n, at); !sameNets(got, want) {
				t.Fatalf("KillPath(%+v, %d) = %+v, want %+v", n, at, got, want)
			}
		}
		for path := range int64(3) {
			if got, want := impl.KillPath(n, path), killPathModel(n, path); !sameNets(got, want) {
				t.Fatalf("KillPath(%+v, %d) = %+v, want %+v", n, path, got, want)
			}
		}
	}
}

func TestAlterNetAgainstModel(t *testing.T) {
	codes := map[int64]int{}
	for i, n := range everyNet() {
		for _, at := range placesOf(n) {
			for _, place := range aroundOf(0, 3, 7) {
				for _, mask := range append(aroundOf(0, 255), int64(i%256)) {
					got, want := impl.AlterNet(n, at, place, mask), alterNetModel(n, at, place, mask)
					if !sameNets(got, want) {
						t.Fatalf("AlterNet(%+v, %d, %d, %d) = %+v, want %+v", n, at, place, mask, got, want)
					}
					codes[got.Code]++
				}
			}
		}
	}
	if codes[impl.OK] < 1000 || codes[impl.ErrRange] < 1000 || codes[impl.ErrNone] < 1000 {
		t.Errorf("the codes %v came too seldom to tell", codes)
	}
}
