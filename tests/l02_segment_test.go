package tests

import (
	"bytes"
	"math"
	"math/rand"
	"slices"
	"testing"

	"loop.example/g00230/impl"
)

// lettersOf is a load of so many bytes, no two neighbours alike.
func lettersOf(count int) []byte {
	var load []byte
	for i := 0; i < count; i++ {
		load = append(load, byte('a'+i%26))
	}
	return load
}

// faultModel asks the codes one row at a time, as the document lists them.
func faultModel(g impl.Segment) int64 {
	ranges := []struct{ n, most int64 }{{g.Path, 2}, {g.From, 1}, {g.Seq, 65535}, {g.Ack, 65535}, {g.End, 1000}, {g.A, 1000000}, {g.B, 1000000}}
	for _, r := range ranges {
		if r.n < 0 || r.n > r.most {
			return impl.ErrRange
		}
	}
	switch {
	case g.Opt < 0, g.Opt > 4:
		return impl.ErrForm
	case g.Opt == 0 && g.A != 0, g.Opt == 0 && g.B != 0:
		return impl.ErrForm
	case g.Syn && len(g.Load) != 0, g.Rst && len(g.Load) != 0:
		return impl.ErrForm
	case len(g.Load) >= 9:
		return impl.ErrMany
	}
	return impl.OK
}

// sumModel sums up without a modulus on the way: the modulus may as well be taken at the end.
func sumModel(data []byte) int64 {
	h, s := int64(1), int64(0)
	for i, b := range data {
		h += int64(b)
		s += 1 + int64(b)*int64(len(data)-i)
	}
	return s%251*256 + h%251
}

// withSum puts the right sum behind bytes, of a segment or not.
func withSum(body []byte) []byte {
	sum := sumModel(body)
	return append(slices.Clone(body), byte(sum/256), byte(sum%256))
}

func bit(is bool, value byte) byte {
	if is {
		return value
	}
	return 0
}

// packModel is only for segments without a fault.
func packModel(g impl.Segment) []byte {
	return withSum(append([]byte{
		byte(g.Path*2 + g.From), bit(g.Syn, 1) + bit(g.Ackd, 2) + bit(g.Rst, 4),
		byte(g.Seq / 256), byte(g.Seq % 256), byte(g.Ack / 256), byte(g.Ack % 256), byte(g.End / 256), byte(g.End % 256), byte(g.Opt),
		byte(g.A / 65536), byte(g.A / 256 % 256), byte(g.A % 256), byte(g.B / 65536), byte(g.B / 256 % 256), byte(g.B % 256), byte(len(g.Load)),
	}, g.Load...))
}

// unpackModel refuses each wrong byte for itself, where the program packs again what it read.
func unpackModel(data []byte) impl.SegmentResult {
	if len(data) < 18 {
		return impl.SegmentResult{Code: impl.ErrText}
	}
	last := len(data) - 2
	if int64(data[last])*256+int64(data[last+1]) != sumModel(data[:last]) {
		return impl.SegmentResult{Code: impl.ErrSum}
	}
	if data[1] > 7 || int(data[15]) != len(data)-18 {
		return impl.SegmentResult{Code: impl.ErrText}
	}
	number := func(list []byte) int64 {
		n := int64(0)
		for _, b := range list {
			n = n*256 + int64(b)
		}
		return n
	}
	g := impl.Segment{
		Path: int64(data[0] / 2), From: int64(data[0] % 2), Syn: data[1]%2 == 1, Ackd: data[1]/2%2 == 1, Rst: data[1]/4 == 1,
		Seq: number(data[2:4]), Ack: number(data[4:6]), End: number(data[6:8]), Opt: number(data[8:9]),
		A: number(data[9:12]), B: number(data[12:15]), Load: slices.Clone(data[16:last]),
	}
	if faultModel(g) != impl.OK {
		return impl.SegmentResult{Code: impl.ErrText}
	}
	return impl.SegmentResult{Segment: g}
}

// sameFields does not lean on the program's own SameSegment.
func sameFields(a impl.Segment, b impl.Segment) bool {
	return bytes.Equal(a.Load, b.Load) && a.Path == b.Path && a.From == b.From && a.Syn == b.Syn && a.Ackd == b.Ackd && a.Rst == b.Rst &&
		a.Seq == b.Seq && a.Ack == b.Ack && a.End == b.End && a.Opt == b.Opt && a.A == b.A && a.B == b.B
}

func sameResult(a impl.SegmentResult, b impl.SegmentResult) bool {
	return a.Code == b.Code && sameFields(a.Segment, b.Segment)
}

// turns are the fields of a segment, each with values at and beyond its edges.
func turns() []func(g impl.Segment) []impl.Segment {
	numbers := func(set func(g *impl.Segment, n int64), list ...int64) func(g impl.Segment) []impl.Segment {
		list = append(list, 0, 1, -1, math.MinInt64, math.MinInt64+1, math.MaxInt64-1, math.MaxInt64, 1<<16, 1<<24, 1<<32)
		return func(g impl.Segment) []impl.Segment {
			var out []impl.Segment
			for _, n := range list {
				turned := g
				set(&turned, n)
				out = append(out, turned)
			}
			return out
		}
	}
	flags := func(set func(g *impl.Segment, is bool)) func(g impl.Segment) []impl.Segment {
		return func(g impl.Segment) []impl.Segment {
			yes, no := g, g
			set(&yes, true)
			set(&no, false)
			return []impl.Segment{yes, no}
		}
	}
	loads := func(g impl.Segment) []impl.Segment {
		var out []impl.Segment
		for _, load := range [][]byte{nil, {}, {0}, {255}, lettersOf(7), lettersOf(8), lettersOf(9), lettersOf(10), lettersOf(256), lettersOf(264)} {
			turned := g
			turned.Load = load
			out = append(out, turned)
		}
		return out
	}
	return []func(g impl.Segment) []impl.Segment{
		numbers(func(g *impl.Segment, n int64) { g.Path = n }, 2, 3, 128),
		numbers(func(g *impl.Segment, n int64) { g.From = n }, 2, 3),
		numbers(func(g *impl.Segment, n int64) { g.Seq = n }, 258, 65534, 65535, 65537),
		numbers(func(g *impl.Segment, n int64) { g.Ack = n }, 258, 65534, 65535, 65537),
		numbers(func(g *impl.Segment, n int64) { g.End = n }, 2, 255, 256, 999, 1000, 1001),
		numbers(func(g *impl.Segment, n int64) { g.Opt = n }, 2, 3, 4, 5, 256, 260),
		numbers(func(g *impl.Segment, n int64) { g.A = n }, 255, 256, 65535, 999999, 1000000, 1000001),
		numbers(func(g *impl.Segment, n int64) { g.B = n }, 255, 256, 65535, 999999, 1000000, 1000001),
		flags(func(g *impl.Segment, is bool) { g.Syn = is }),
		flags(func(g *impl.Segment, is bool) { g.Ackd = is }),
		flags(func(g *impl.Segment, is bool) { g.Rst = is }),
		loads,
	}
}

// plainSegments are ordinary ones, without a fault.
func plainSegments() []impl.Segment {
	return []impl.Segment{
		{},
		{Load: []byte{}},
		{Path: 1, From: 1, Ackd: true, Seq: 258, Ack: 3, End: 6, Opt: impl.OptMap, A: 2005, B: 7, Load: []byte("hi")},
		{Path: 2, From: 1, Syn: true, Seq: 65535, Opt: impl.OptKey, A: 1000000, B: 1000000},
		{Path: 2, Syn: true, Ackd: true, Rst: true, Ack: 65535, End: 1000, Opt: impl.OptJoin, A: 65536, B: 255},
		{Path: 1, Rst: true, End: 1, Opt: impl.OptProof, B: 513},
		{From: 1, Ackd: true, Seq: 7, Ack: 770, End: 258, Load: []byte{0, 255, 250, 251, 252, 1, 0, 9}},
		{Opt: impl.OptMap, Load: []byte{0}},
	}
}

// manySegments turns each field, and each two fields together, of ordinary segments; most of them have a fault, many have several.
func manySegments() []impl.Segment {
	all := turns()
	var out []impl.Segment
	for _, g := range plainSegments() {
		for i, one := range all {
			for _, once := range one(g) {
				out = append(out, once)
				for _, other := range all[i+1:] {
					out = append(out, other(once)...)
				}
			}
		}
	}
	return out
}

// rightSegments are drawn from a seed that is always the same; each is without a fault.
func rightSegments(count int) []impl.Segment {
	draw := rand.New(rand.NewSource(230))
	var out []impl.Segment
	for len(out) < count {
		g := impl.Segment{
			Path: draw.Int63n(3), From: draw.Int63n(2), Syn: draw.Intn(4) == 0, Ackd: draw.Intn(2) == 0, Rst: draw.Intn(4) == 0,
			Seq: draw.Int63n(65536), Ack: draw.Int63n(65536), End: draw.Int63n(1001), Opt: draw.Int63n(5),
		}
		if g.Opt != impl.OptNone {
			g.A, g.B = draw.Int63n(1000001), draw.Int63n(1000001)
		}
		if !g.Syn && !g.Rst {
			g.Load = make([]byte, draw.Intn(9))
			draw.Read(g.Load)
		}
		out = append(out, g)
	}
	return out
}

func TestSegmentConstants(t *testing.T) {
	if impl.OptNone != 0 || impl.OptKey != 1 || impl.OptJoin != 2 || impl.OptProof != 3 || impl.OptMap != 4 || impl.MaxLoad != 8 {
		t.Error("a constant of chapter 2 is not as the document has it")
	}
}

func TestSegmentFault(t *testing.T) {
	rows := []struct {
		name string
		g    impl.Segment
		want int64
	}{
		{"the zero value", impl.Segment{}, impl.OK},
		{"all at the top", impl.Segment{Path: 2, From: 1, Ackd: true, Seq: 65535, Ack: 65535, End: 1000, Opt: 4, A: 1000000, B: 1000000, Load: lettersOf(8)}, impl.OK},
		{"all flags", impl.Segment{Syn: true, Ackd: true, Rst: true}, impl.OK},
		{"an empty Load with Syn", impl.Segment{Syn: true, Load: []byte{}}, impl.OK},
		{"an empty Load with Rst", impl.Segment{Rst: true, Load: []byte{}}, impl.OK},
		{"a Load with Ackd", impl.Segment{Ackd: true, Load: []byte{1}}, impl.OK},
		{"an option without numbers", impl.Segment{Opt: impl.OptProof}, impl.OK},
		{"Path 3", impl.Segment{Path: 3}, impl.ErrRange},
		{"Path below 0", impl.Segment{Path: -1}, impl.ErrRange},
		{"From 2", impl.Segment{From: 2}, impl.ErrRange},
		{"From below 0", impl.Segment{From: -1}, impl.ErrRange},
		{"Seq 65536", impl.Segment{Seq: 65536}, impl.ErrRange},
		{"Seq below 0", impl.Segment{Seq: -1}, impl.ErrRange},
		{"Ack 65536", impl.Segment{Ack: 65536}, impl.ErrRange},
		{"Ack below 0", impl.Segment{Ack: -1}, impl.ErrRange},
		{"End 1001", impl.Segment{End: 1001}, impl.ErrRange},
		{"End below 0", impl.Segment{End: -1}, impl.ErrRange},
		{"A above 10^6", impl.Segment{Opt: 1, A: 1000001}, impl.ErrRange},
		{"A below 0", impl.Segment{Opt: 1, A: -1}, impl.ErrRange},
		{"B above 10^6", impl.Segment{Opt: 1, B: 1000001}, impl.ErrRange},
		{"B below 0", impl.Segment{Opt: 1, B: -1}, impl.ErrRange},
		{"the least int64", impl.Segment{Seq: math.MinInt64}, impl.ErrRange},
		{"the greatest int64", impl.Segment{Ack: math.MaxInt64}, impl.ErrRange},
		{"Opt 5", impl.Segment{Opt: 5}, impl.ErrForm},
		{"Opt below 0", impl.Segment{Opt: -1}, impl.ErrForm},
		{"Opt the greatest int64", impl.Segment{Opt: math.MaxInt64}, impl.ErrForm},
		{"A without an option", impl.Segment{A: 1}, impl.ErrForm},
		{"B without an option", impl.Segment{B: 1000000}, impl.ErrForm},
		{"a Load with Syn", impl.Segment{Syn: true, Load: []byte{0}}, impl.ErrForm},
		{"a Load with Rst", impl.Segment{Rst: true, Load: []byte{0}}, impl.ErrForm},
		{"a Load of 9", impl.Segment{Load: lettersOf(9)}, impl.ErrMany},
		{"range ahead of form", impl.Segment{Opt: 5, B: -1}, impl.ErrRange},
		{"range ahead of form, no option", impl.Segment{A: 1000001}, impl.ErrRange},
		{"range ahead of many", impl.Segment{End: 1001, Load: lettersOf(9)}, impl.ErrRange},
		{"range ahead of both", impl.Segment{From: 2, Opt: -1, Rst: true, Load: lettersOf(9)}, impl.ErrRange},
		{"form ahead of many, Syn", impl.Segment{Syn: true, Load: lettersOf(9)}, impl.ErrForm},
		{"form ahead of many, Opt", impl.Segment{Opt: 5, Load: lettersOf(9)}, impl.ErrForm},
		{"form ahead of many, no option", impl.Segment{B: 1, Load: lettersOf(9)}, impl.ErrForm},
	}
	for _, row := range rows {
		if got := impl.SegmentFault(row.g); got != row.want {
			t.Errorf("SegmentFault of %s = %d, want %d", row.name, got, row.want)
		}
	}
}

func TestSegmentFaultAgainstModel(t *testing.T) {
	for _, g := range manySegments() {
		if got, want := impl.SegmentFault(g), faultModel(g); got != want {
			t.Fatalf("SegmentFault(%+v) = %d, want %d", g, got, want)
		}
	}
}

func TestPackSegment(t *testing.T) {
	g := impl.Segment{Path: 1, From: 1, Ackd: true, Seq: 258, Ack: 3, End: 515, Opt: impl.OptMap, A: 66051, B: 7, Load: []byte("hi")}
	want := withSum([]byte{3, 2, 1, 2, 0, 3, 2, 3, 4, 1, 2, 3, 0, 0, 7, 2, 'h', 'i'})
	if got := impl.PackSegment(g); got.Code != impl.OK || !bytes.Equal(got.Bytes, want) {
		t.Errorf("PackSegment = %v, want %v", got, want)
	}
	// The sum of 16 noughts: h stays 1, s is 16.
	if got := impl.PackSegment(impl.Segment{}); got.Code != impl.OK || !bytes.Equal(got.Bytes, append(make([]byte, 16), 16, 1)) {
		t.Errorf("PackSegment of the zero value = %v", got)
	}
	for flags := 0; flags < 8; flags++ {
		g := impl.Segment{Syn: flags%2 == 1, Ackd: flags/2%2 == 1, Rst: flags/4 == 1}
		if got := impl.PackSegment(g); len(got.Bytes) != 18 || got.Bytes[1] != byte(flags) {
			t.Errorf("the flags %d are packed as %v", flags, got)
		}
	}
}

// With a fault there are no bytes; without one there are just those of the model.
func TestPackSegmentAgainstModel(t *testing.T) {
	for _, g := range append(manySegments(), rightSegments(500)...) {
		got := impl.PackSegment(g)
		if fault := faultModel(g); fault != impl.OK {
			if got.Code != fault || len(got.Bytes) != 0 {
				t.Fatalf("PackSegment(%+v) = %v, want the code %d alone", g, got, fault)
			}
			continue
		}
		if got.Code != impl.OK || !bytes.Equal(got.Bytes, packModel(g)) {
			t.Fatalf("PackSegment(%+v) = %v, want %v", g, got, packModel(g))
		}
	}
}

func TestUnpackSegmentFewBytes(t *testing.T) {
	packed := packModel(impl.Segment{})
	for count := 0; count < 18; count++ {
		if got := impl.UnpackSegment(packed[:count]); !sameResult(got, impl.SegmentResult{Code: impl.ErrText}) {
			t.Errorf("UnpackSegment of %d bytes = %+v", count, got)
		}
	}
	if got := impl.UnpackSegment(nil); !sameResult(got, impl.SegmentResult{Code: impl.ErrText}) {
		t.Errorf("UnpackSegment of nil = %+v", got)
	}
	// That there are too few is told ahead of the sum: of 17 bytes with the right one, too.
	if got := impl.UnpackSegment(withSum(make([]byte, 15))); !sameResult(got, impl.SegmentResult{Code: impl.ErrText}) {
		t.Errorf("UnpackSegment of 17 bytes with their sum = %+v", got)
	}
	if got := impl.UnpackSegment(packed); !sameResult(got, impl.SegmentResult{}) {
		t.Errorf("UnpackSegment of 18 bytes = %+v", got)
	}
}

func TestUnpackSegmentTurnedBytes(t *testing.T) {
	for _, g := range plainSegments() {
		packed := packModel(g)
		for place := range packed {
			for value := 0; value < 256; value++ {
				data := slices.Clone(packed)
				data[place] = byte(value)
				got, want := impl.UnpackSegment(data), unpackModel(data)
				if !sameResult(got, want) {
					t.Fatalf("UnpackSegment(%v) = %+v, want %+v", data, got, want)
				}
				// A sum modulo 251 sees all but what turns by that.
				turned := (value - int(packed[place])) % 251
				if (turned != 0 || place >= len(packed)-2 && data[place] != packed[place]) && got.Code != impl.ErrSum {
					t.Fatalf("the byte %d turned to %d is not seen: %+v", place, value, got)
				}
			}
		}
	}
}

// Bytes whose sum is right, but which may be of no segment.
func TestUnpackSegmentRightSumOfNoSegment(t *testing.T) {
	for _, g := range plainSegments() {
		body := packModel(g)
		body = body[:len(body)-2]
		for place := range body {
			for value := 0; value < 256; value++ {
				turned := slices.Clone(body)
				turned[place] = byte(value)
				data := withSum(turned)
				if got, want := impl.UnpackSegment(data), unpackModel(data); !sameResult(got, want) {
					t.Fatalf("UnpackSegment(%v) = %+v, want %+v", data, got, want)
				}
			}
		}
	}
}

func TestUnpackSegmentWrongBytes(t *testing.T) {
	body := func(change func(b []byte) []byte) []byte {
		return change([]byte{3, 2, 1, 2, 0, 3, 0, 6, 4, 0, 7, 213, 0, 0, 7, 2, 'h', 'i'})
	}
	set := func(place int, values ...byte) func(b []byte) []byte {
		return func(b []byte) []byte {
			copy(b[place:], values)
			return b
		}
	}
	behind := func(more ...byte) func(b []byte) []byte {
		return func(b []byte) []byte { return append(b, more...) }
	}
	rows := []struct {
		name string
		data []byte
		want int64
	}{
		{"as it is", withSum(body(behind())), impl.OK},
		{"the path byte 5", withSum(body(set(0, 5))), impl.OK},
		{"the path byte 6", withSum(body(set(0, 6))), impl.ErrText},
		{"the path byte 255", withSum(body(set(0, 255))), impl.ErrText},
		{"a flag byte with 8", withSum(body(set(1, 10))), impl.ErrText},
		{"a flag byte with 128", withSum(body(set(1, 130))), impl.ErrText},
		{"a Load with Syn", withSum(body(set(1, 1))), impl.ErrText},
		{"a Load with Rst", withSum(body(set(1, 4))), impl.ErrText},
		{"End 1000", withSum(body(set(6, 3, 232))), impl.OK},
		{"End 1001", withSum(body(set(6, 3, 233))), impl.ErrText},
		{"Opt 5", withSum(body(set(8, 5))), impl.ErrText},
		{"no option, but numbers", withSum(body(set(8, 0))), impl.ErrText},
		{"A 10^6", withSum(body(set(9, 15, 66, 64))), impl.OK},
		{"A one more", withSum(body(set(9, 15, 66, 65))), impl.ErrText},
		{"B 10^6", withSum(body(set(12, 15, 66, 64))), impl.OK},
		{"B one more", withSum(body(set(12, 15, 66, 65))), impl.ErrText},
		{"too few bytes told", withSum(body(set(15, 1))), impl.ErrText},
		{"no bytes told", withSum(body(set(15, 0))), impl.ErrText},
		{"too many bytes told", withSum(body(set(15, 3))), impl.ErrText},
		{"a byte behind the Load", withSum(body(behind(0))), impl.ErrText},
		{"a byte behind all", append(withSum(body(behind())), 0), impl.ErrSum},
		{"all twice", append(withSum(body(behind())), withSum(body(behind()))...), impl.ErrSum},
	}
	for _, row := range rows {
		got := impl.UnpackSegment(row.data)
		if got.Code != row.want || !sameResult(got, unpackModel(row.data)) {
			t.Errorf("UnpackSegment of %s = %+v, want the code %d", row.name, got, row.want)
		}
	}
	long := func(told byte, count int) []byte {
		return withSum(append(append(make([]byte, 15), told), lettersOf(count)...))
	}
	for count := 0; count <= 600; count++ {
		for _, told := range []byte{byte(count), 0, 8} {
			data := long(told, count)
			if got := impl.UnpackSegment(data); !sameResult(got, unpackModel(data)) {
				t.Fatalf("UnpackSegment of %d bytes of Load, told as %d = %+v", count, told, got)
			}
			data[len(data)-1]++
			if got := impl.UnpackSegment(data); !sameResult(got, impl.SegmentResult{Code: impl.ErrSum}) {
				t.Fatalf("UnpackSegment of %d bytes of Load with a wrong sum = %+v", count, got)
			}
		}
	}
}

func TestSumBytes(t *testing.T) {
	rows := []struct {
		data []byte
		want int64
	}{
		{nil, 1}, {[]byte{}, 1}, {[]byte{1}, 514}, {[]byte{0}, 257}, {[]byte{250}, 0}, {[]byte{249}, 250*256 + 250}, {[]byte{251}, 257}, {[]byte{255}, 5*256 + 5},
		{[]byte{1, 2}, 6*256 + 4}, {[]byte{2, 1}, 7*256 + 4}, {make([]byte, 251), 1}, {make([]byte, 252), 257},
	}
	for _, row := range rows {
		if got := impl.SumBytes(row.data); got != row.want {
			t.Errorf("SumBytes(%v) = %d, want %d", row.data, got, row.want)
		}
	}
	for count := 0; count < 700; count++ {
		for _, data := range [][]byte{lettersOf(count), bytes.Repeat([]byte{255}, count), bytes.Repeat([]byte{250, 3}, count)} {
			if got, want := impl.SumBytes(data), sumModel(data); got != want {
				t.Fatalf("SumBytes(%v) = %d, want %d", data, got, want)
			}
		}
	}
	if data := bytes.Repeat([]byte{255}, 3000000); impl.SumBytes(data) != sumModel(data) {
		t.Errorf("SumBytes of many bytes = %d, want %d", impl.SumBytes(data), sumModel(data))
	}
}

func TestSumLoad(t *testing.T) {
	if got := impl.SumLoad(0, nil); got != 4*256+1 {
		t.Errorf("SumLoad of nothing = %d", got)
	}
	if got, want := impl.SumLoad(258, []byte{9}), sumModel([]byte{1, 2, 0, 1, 9}); got != want {
		t.Errorf("SumLoad(258, 9) = %d, want %d", got, want)
	}
	for _, at := range edgeNumbers() {
		for _, count := range []int{0, 1, 8, 9, 255, 256, 257, 65535, 65536, 65537} {
			load := lettersOf(count)
			place := leftOf(whole(at))
			want := sumModel(append([]byte{byte(place / 256), byte(place % 256), byte(count / 256 % 256), byte(count % 256)}, load...))
			if got := impl.SumLoad(at, load); got != want {
				t.Fatalf("SumLoad(%d, %d bytes) = %d, want %d", at, count, got, want)
			}
		}
	}
	if impl.SumLoad(5, nil) != impl.SumLoad(5, []byte{}) {
		t.Error("SumLoad of nil is not that of no bytes")
	}
}

func TestSameSegment(t *testing.T) {
	for _, g := range plainSegments() {
		for _, turn := range turns() {
			for _, other := range turn(g) {
				want := sameFields(g, other)
				if impl.SameSegment(g, other) != want || impl.SameSegment(other, g) != want {
					t.Errorf("SameSegment(%+v, %+v) is not %v", g, other, want)
				}
				again := other
				again.Load = slices.Clone(other.Load)
				if !impl.SameSegment(other, again) {
					t.Errorf("%+v is not the same as itself", other)
				}
			}
		}
	}
	rows := []struct {
		a, b []byte
		want bool
	}{
		{nil, []byte{}, true}, {[]byte{}, nil, true}, {nil, []byte{0}, false}, {[]byte{0}, nil, false},
		{[]byte{1, 2}, []byte{1, 3}, false}, {[]byte{1, 2}, []byte{2, 1}, false}, {[]byte{1, 2}, []byte{1, 2, 0}, false},
		{lettersOf(20), lettersOf(20), true}, {lettersOf(20), lettersOf(19), false},
	}
	for _, row := range rows {
		if got := impl.SameSegment(impl.Segment{Path: 9, Load: row.a}, impl.Segment{Path: 9, Load: row.b}); got != row.want {
			t.Errorf("SameSegment of the loads %v and %v = %v", row.a, row.b, got)
		}
	}
}

// checkReadBack holds promise 3 of a segment without a fault.
func checkReadBack(t *testing.T, g impl.Segment) {
	t.Helper()
	packed := impl.PackSegment(g)
	if packed.Code != impl.OK || len(packed.Bytes) != 18+len(g.Load) {
		t.Fatalf("PackSegment(%+v) = %v", g, packed)
	}
	back := impl.UnpackSegment(packed.Bytes)
	if back.Code != impl.OK || !sameFields(back.Segment, g) || !impl.SameSegment(back.Segment, g) {
		t.Fatalf("%+v is read back as %+v", g, back)
	}
}

func TestPromise3ReadBack(t *testing.T) {
	read := 0
	for _, g := range append(manySegments(), rightSegments(3000)...) {
		if faultModel(g) == impl.OK {
			checkReadBack(t, g)
			read++
		}
	}
	if read < 3000 {
		t.Errorf("only %d segments without a fault were asked", read)
	}
}

// checkJustThose holds promise 3 of bytes: those that are read are just what their segment is packed to.
func checkJustThose(t *testing.T, data []byte) bool {
	t.Helper()
	got := impl.UnpackSegment(data)
	if got.Code != impl.OK {
		if !sameFields(got.Segment, impl.Segment{}) {
			t.Fatalf("UnpackSegment(%v) tells %+v beside the code %d", data, got.Segment, got.Code)
		}
		return false
	}
	again := impl.PackSegment(got.Segment)
	if again.Code != impl.OK || !bytes.Equal(again.Bytes, data) {
		t.Fatalf("%v is read as %+v, which is packed to %v", data, got.Segment, again)
	}
	return true
}

func TestPromise3BytesThatAreRead(t *testing.T) {
	draw := rand.New(rand.NewSource(3))
	tops := []int{8, 12, 256, 256, 256, 256, 5, 256, 6, 17, 256, 256, 17, 256, 256, 12}
	read, refused := 0, 0
	for range 30000 {
		var body []byte
		for _, top := range tops {
			body = append(body, byte(draw.Intn(top)))
		}
		count := int(body[15])
		if draw.Intn(4) == 0 {
			count = draw.Intn(12)
		}
		for range count {
			body = append(body, byte(draw.Intn(256)))
		}
		data := withSum(body)
		if draw.Intn(10) == 0 {
			data[draw.Intn(len(data))]++
		}
		if want := unpackModel(data); !sameResult(impl.UnpackSegment(data), want) {
			t.Fatalf("UnpackSegment(%v) = %+v, want %+v", data, impl.UnpackSegment(data), want)
		}
		if checkJustThose(t, data) {
			read++
		} else {
			refused++
		}
	}
	if read < 1000 || refused < 1000 {
		t.Errorf("%d were read, %d were not: too few to tell", read, refused)
	}
}

func TestPromise3Stripped(t *testing.T) {
	for _, g := range append(manySegments(), rightSegments(500)...) {
		want := g
		want.Opt, want.A, want.B = impl.OptNone, 0, 0
		got := impl.StripSegment(g)
		if !sameFields(got, want) {
			t.Fatalf("StripSegment(%+v) = %+v", g, got)
		}
		if faultModel(g) == impl.OK && impl.SegmentFault(got) != impl.OK {
			t.Fatalf("StripSegment(%+v) has the fault %d", g, impl.SegmentFault(got))
		}
		if again := impl.StripSegment(got); !sameFields(again, got) {
			t.Fatalf("what is stripped twice is %+v, once %+v", again, got)
		}
	}
}

// roomy is a list with bytes behind its end, which nobody may touch.
func roomy(list []byte) (back []byte, part []byte) {
	back = append(slices.Clone(list), 71, 72, 73, 74)
	return back, back[:len(list)]
}

func TestPromise1SegmentsAreNotChanged(t *testing.T) {
	for _, g := range append(plainSegments(), impl.Segment{Path: 7, Load: lettersOf(12)}) {
		back, load := roomy(g.Load)
		kept := slices.Clone(back)
		g.Load = load
		other := g
		impl.SegmentFault(g)
		impl.PackSegment(g)
		impl.StripSegment(g)
		impl.SameSegment(g, other)
		impl.SumBytes(load)
		impl.SumLoad(3, load)
		if !bytes.Equal(back, kept) {
			t.Errorf("the Load of %+v was changed: %v, was %v", g, back, kept)
		}
	}
	for _, data := range [][]byte{packModel(plainSegments()[2]), packModel(impl.Segment{}), withSum(lettersOf(30)), lettersOf(18), lettersOf(3)} {
		back, part := roomy(data)
		kept := slices.Clone(back)
		impl.UnpackSegment(part)
		if !bytes.Equal(back, kept) {
			t.Errorf("UnpackSegment changed its bytes: %v, was %v", back, kept)
		}
	}
}

// spoil writes over an answer and over the room behind it.
func spoil(list []byte) {
	for i := range list[:cap(list)] {
		list[:cap(list)][i] ^= 0xff
	}
}

func TestPromise1AnswersAreNewMemory(t *testing.T) {
	for _, count := range []int{0, 1, 2, 7, 8, 20} {
		back, load := roomy(lettersOf(count))
		kept := slices.Clone(back)
		g := impl.Segment{Opt: impl.OptMap, A: 5, B: 6, Load: load}
		spoil(impl.StripSegment(g).Load)
		spoil(impl.PackSegment(g).Bytes)
		if !bytes.Equal(back, kept) {
			t.Errorf("an answer shares memory with a Load of %d bytes: %v, was %v", count, back, kept)
		}
	}
	for count := 0; count <= 8; count++ {
		back, data := roomy(packModel(impl.Segment{Load: lettersOf(count)}))
		kept := slices.Clone(back)
		got := impl.UnpackSegment(data)
		spoil(got.Segment.Load)
		if !bytes.Equal(back, kept) {
			t.Errorf("a Load of %d bytes shares memory with the bytes it was read from", count)
		}
		if again := impl.UnpackSegment(data); !sameFields(again.Segment, impl.Segment{Load: lettersOf(count)}) {
			t.Errorf("an answer that was written over is told again: %+v", again)
		}
	}
}

func TestPromise1SegmentsSameArgumentsSameAnswers(t *testing.T) {
	segments := append(plainSegments(), rightSegments(50)...)
	ask := func() (out [][]byte) {
		for _, g := range segments {
			packed := impl.PackSegment(g)
			back := impl.UnpackSegment(packed.Bytes)
			sums := []int64{impl.SumBytes(g.Load), impl.SumLoad(g.Seq, g.Load), impl.SegmentFault(g), back.Code}
			row := append(slices.Clone(packed.Bytes), packModel(back.Segment)...)
			row = append(row, packModel(impl.StripSegment(g))...)
			for _, sum := range sums {
				row = append(row, byte(sum>>8), byte(sum))
			}
			out = append(out, row)
		}
		return out
	}
	first := ask()
	slices.Reverse(segments)
	second := ask()
	slices.Reverse(second)
	for i := range first {
		if !bytes.Equal(first[i], second[i]) {
			t.Errorf("the segment %d is answered in another way the second time", i)
		}
	}
}
