package tests

import (
	"bytes"
	"math"
	"math/rand"
	"slices"
	"testing"

	"loop.example/g00230/impl"
)

// rowModel is a stream with one cell a place; -1 is a place without a byte.
type rowModel [400]int

func emptyRow() rowModel {
	var row rowModel
	for i := range row {
		row[i] = -1
	}
	return row
}

// rowOf is only for gathers without a fault.
func rowOf(g impl.Gather) rowModel {
	row := emptyRow()
	for i, b := range g.Done {
		row[i] = int(b)
	}
	for _, p := range g.Pieces {
		for i, b := range p.Data {
			row[int(p.At)+i] = int(b)
		}
	}
	return row
}

// gather reads a row cell by cell: a cell behind one without a byte begins a piece, the others lengthen what is ahead.
func (row rowModel) gather() impl.Gather {
	var g impl.Gather
	for i, b := range row {
		switch {
		case b < 0:
		case i == len(g.Done):
			g.Done = append(g.Done, byte(b))
		case row[i-1] < 0:
			g.Pieces = append(g.Pieces, impl.Piece{At: int64(i), Data: []byte{byte(b)}})
		default:
			last := &g.Pieces[len(g.Pieces)-1]
			last.Data = append(last.Data, byte(b))
		}
	}
	return g
}

func (row rowModel) has(at int64) bool {
	return at >= 0 && at < 400 && row[at] >= 0
}

// gatherFaultModel works out the ends without any bound on At.
func gatherFaultModel(g impl.Gather) int64 {
	if len(g.Done) >= 401 || len(g.Pieces) >= 41 {
		return impl.ErrMany
	}
	for i, p := range g.Pieces {
		end := func(p impl.Piece) int64 {
			sum := whole(p.At)
			sum.Add(sum, whole(int64(len(p.Data))))
			if !sum.IsInt64() {
				return math.MaxInt64
			}
			return sum.Int64()
		}
		switch {
		case len(p.Data) == 0:
			return impl.ErrForm
		case p.At < 0, end(p) > 400:
			return impl.ErrRange
		case p.At <= int64(len(g.Done)), i > 0 && p.At <= end(g.Pieces[i-1]):
			return impl.ErrForm
		}
	}
	return impl.OK
}

func putModel(g impl.Gather, at int64, data []byte) impl.GatherResult {
	if fault := gatherFaultModel(g); fault != impl.OK {
		return impl.GatherResult{Code: fault}
	}
	if at < 0 || at > 400 || at+int64(len(data)) > 400 {
		return impl.GatherResult{Code: impl.ErrRange}
	}
	row := rowOf(g)
	for i, b := range data {
		if row[int(at)+i] < 0 {
			row[int(at)+i] = int(b)
		}
	}
	put := row.gather()
	if len(put.Pieces) > 40 {
		return impl.GatherResult{Code: impl.ErrMany}
	}
	return impl.GatherResult{Gather: put}
}

func holdModel(g impl.Gather) impl.IntResult {
	if fault := gatherFaultModel(g); fault != impl.OK {
		return impl.IntResult{Code: fault}
	}
	row := rowOf(g)
	hold := int64(0)
	for i := len(g.Done); i < 400; i++ {
		if row[i] >= 0 {
			hold++
		}
	}
	return impl.IntResult{Value: hold}
}

// missingModel counts the gaps that have a byte somewhere behind them.
func missingModel(g impl.Gather) impl.IntResult {
	if fault := gatherFaultModel(g); fault != impl.OK {
		return impl.IntResult{Code: fault}
	}
	missing, gaps := int64(0), int64(0)
	for _, b := range rowOf(g) {
		if b < 0 {
			gaps++
		} else {
			missing = gaps
		}
	}
	return impl.IntResult{Value: missing}
}

func fitsModel(g impl.Gather, stream []byte) bool {
	if gatherFaultModel(g) != impl.OK {
		return false
	}
	for i, b := range rowOf(g) {
		if b >= 0 && (i >= len(stream) || int(stream[i]) != b) {
			return false
		}
	}
	return true
}

func samePieces(a []impl.Piece, b []impl.Piece) bool {
	return slices.EqualFunc(a, b, func(p impl.Piece, q impl.Piece) bool { return p.At == q.At && bytes.Equal(p.Data, q.Data) })
}

func sameGather(a impl.Gather, b impl.Gather) bool {
	return bytes.Equal(a.Done, b.Done) && samePieces(a.Pieces, b.Pieces)
}

func samePut(a impl.GatherResult, b impl.GatherResult) bool {
	return a.Code == b.Code && sameGather(a.Gather, b.Gather)
}

func piece(at int64, text string) impl.Piece {
	return impl.Piece{At: at, Data: []byte(text)}
}

func gatherWith(done string, pieces ...impl.Piece) impl.Gather {
	return impl.Gather{Done: []byte(done), Pieces: pieces}
}

// combOf has so many pieces of one byte, each with one place without a byte ahead of it.
func combOf(count int) impl.Gather {
	var g impl.Gather
	for i := range count {
		g.Pieces = append(g.Pieces, piece(int64(2*i+1), string(rune('a'+i%26))))
	}
	return g
}

// rightGathers are ordinary ones and those at the edges, without a fault.
func rightGathers() []impl.Gather {
	return []impl.Gather{
		{},
		{Done: []byte{}, Pieces: []impl.Piece{}},
		gatherWith("a"),
		gatherWith("abcde"),
		gatherWith("", piece(1, "x")),
		gatherWith("", piece(3, "de")),
		gatherWith("abc", piece(4, "x")),
		gatherWith("abc", piece(5, "fgh"), piece(9, "j"), piece(11, "lmn")),
		gatherWith("abc", piece(5, "fgh"), piece(30, "vw"), piece(392, "12345678")),
		gatherWith("", piece(399, "z")),
		gatherWith("", piece(1, "b"), piece(398, "yz")),
		{Pieces: []impl.Piece{{At: 1, Data: lettersOf(399)}}},
		{Done: lettersOf(398), Pieces: []impl.Piece{piece(399, "z")}},
		{Done: lettersOf(399)},
		{Done: lettersOf(400)},
		{Done: []byte{0, 0}, Pieces: []impl.Piece{{At: 4, Data: []byte{0, 255, 0}}}},
		combOf(39),
		combOf(40),
	}
}

// wrongGathers have a fault each, many of them several.
func wrongGathers() []impl.Gather {
	out := []impl.Gather{
		{Done: lettersOf(401)},
		{Done: lettersOf(401), Pieces: []impl.Piece{{}}},
		combOf(41),
		{Pieces: make([]impl.Piece, 41)},
		gatherWith("abc", piece(2, "x")),
		gatherWith("abc", piece(3, "x")),
		gatherWith("abc", piece(0, "abc")),
		gatherWith("", piece(0, "a")),
		gatherWith("", piece(4, "ab"), piece(6, "c")),
		gatherWith("", piece(4, "ab"), piece(5, "c")),
		gatherWith("", piece(4, "ab"), piece(4, "ab")),
		gatherWith("", piece(9, "ab"), piece(4, "c")),
		{Done: lettersOf(400), Pieces: []impl.Piece{piece(399, "z")}},
		{Done: lettersOf(400), Pieces: []impl.Piece{piece(400, "z")}},
		{Pieces: []impl.Piece{{At: 1, Data: lettersOf(400)}}},
		{Pieces: []impl.Piece{{At: 0, Data: lettersOf(401)}}},
	}
	for _, at := range []int64{math.MinInt64, math.MinInt64 + 1, -1, 0, 1, 5, 399, 400, 401, math.MaxInt64 - 1, math.MaxInt64} {
		for _, count := range []int{0, 1, 2, 400, 401, 5000} {
			p := impl.Piece{At: at, Data: lettersOf(count)}
			out = append(out, impl.Gather{Pieces: []impl.Piece{p}}, gatherWith("abcdefg", p), gatherWith("", piece(3, "xyz"), p), gatherWith("", p, piece(3, "xyz")), gatherWith("", p, piece(-1, "x")), gatherWith("", p, impl.Piece{At: 9}))
		}
	}
	return slices.DeleteFunc(out, func(g impl.Gather) bool { return gatherFaultModel(g) == impl.OK })
}

// drawnGathers come from a seed that is always the same; each is without a fault.
func drawnGathers(count int) []impl.Gather {
	draw := rand.New(rand.NewSource(34))
	var out []impl.Gather
	for len(out) < count {
		row := emptyRow()
		there, turn := draw.Intn(2) == 0, draw.Intn(20)+1
		for i := range draw.Intn(400) + 1 {
			if draw.Intn(turn) == 0 {
				there = !there
			}
			if there {
				row[i] = draw.Intn(256)
			}
		}
		if g := row.gather(); len(g.Pieces) <= 40 {
			out = append(out, g)
		}
	}
	return out
}

func allGathers() []impl.Gather {
	return slices.Concat(rightGathers(), wrongGathers(), drawnGathers(150))
}

func TestGatherConstants(t *testing.T) {
	if impl.MaxStream != 400 || impl.MaxPieces != 40 {
		t.Error("a constant of chapter 3 is not as the document has it")
	}
}

func TestGatherFault(t *testing.T) {
	rows := []struct {
		name string
		g    impl.Gather
		want int64
	}{
		{"the zero value", impl.Gather{}, impl.OK},
		{"empty lists", impl.Gather{Done: []byte{}, Pieces: []impl.Piece{}}, impl.OK},
		{"400 Done", impl.Gather{Done: lettersOf(400)}, impl.OK},
		{"401 Done", impl.Gather{Done: lettersOf(401)}, impl.ErrMany},
		{"40 pieces", combOf(40), impl.OK},
		{"41 pieces", combOf(41), impl.ErrMany},
		{"a piece one place behind Done", gatherWith("abc", piece(4, "x")), impl.OK},
		{"a piece that touches Done", gatherWith("abc", piece(3, "x")), impl.ErrForm},
		{"a piece within Done", gatherWith("abc", piece(1, "x")), impl.ErrForm},
		{"a piece at 0", gatherWith("", piece(0, "x")), impl.ErrForm},
		{"a piece at 1", gatherWith("", piece(1, "x")), impl.OK},
		{"a piece below 0", gatherWith("", piece(-1, "x")), impl.ErrRange},
		{"a piece at the least int64", gatherWith("", piece(math.MinInt64, "x")), impl.ErrRange},
		{"a piece at the greatest int64", gatherWith("", piece(math.MaxInt64, "x")), impl.ErrRange},
		{"a piece that ends at 400", gatherWith("", piece(399, "x")), impl.OK},
		{"a piece that ends at 401", gatherWith("", piece(399, "xy")), impl.ErrRange},
		{"a piece at 400", gatherWith("", piece(400, "x")), impl.ErrRange},
		{"a long piece that ends at 400", impl.Gather{Pieces: []impl.Piece{{At: 1, Data: lettersOf(399)}}}, impl.OK},
		{"a long piece that ends at 401", impl.Gather{Pieces: []impl.Piece{{At: 1, Data: lettersOf(400)}}}, impl.ErrRange},
		{"no Data", gatherWith("", impl.Piece{At: 4}), impl.ErrForm},
		{"empty Data", gatherWith("", piece(4, "")), impl.ErrForm},
		{"pieces with a place between", gatherWith("", piece(4, "ab"), piece(7, "c")), impl.OK},
		{"pieces that touch", gatherWith("", piece(4, "ab"), piece(6, "c")), impl.ErrForm},
		{"pieces over one another", gatherWith("", piece(4, "ab"), piece(5, "c")), impl.ErrForm},
		{"a piece twice", gatherWith("", piece(4, "ab"), piece(4, "ab")), impl.ErrForm},
		{"pieces that fall", gatherWith("", piece(7, "ab"), piece(4, "c")), impl.ErrForm},
		{"many ahead of form, Done", impl.Gather{Done: lettersOf(401), Pieces: []impl.Piece{{}}}, impl.ErrMany},
		{"many ahead of range, Pieces", impl.Gather{Pieces: append([]impl.Piece{piece(-1, "x")}, combOf(40).Pieces...)}, impl.ErrMany},
		{"no Data ahead of range", gatherWith("", piece(-1, "")), impl.ErrForm},
		{"no Data ahead of range, behind the end", gatherWith("", piece(401, "")), impl.ErrForm},
		{"range ahead of where it stands", gatherWith("abc", piece(-1, "x")), impl.ErrRange},
		{"range ahead of what it touches", gatherWith("", piece(398, "ab"), piece(399, "xy")), impl.ErrRange},
		{"the first piece's form ahead of the second's range", gatherWith("abc", piece(3, "x"), piece(-1, "x")), impl.ErrForm},
		{"the first piece's range ahead of the second's form", gatherWith("", piece(400, "x"), piece(4, "")), impl.ErrRange},
		{"the second piece's range ahead of the third's form", gatherWith("", piece(1, "x"), piece(500, "x"), piece(4, "")), impl.ErrRange},
		{"the last one of 40 pieces", impl.Gather{Pieces: append(combOf(39).Pieces, piece(78, "x"))}, impl.ErrForm},
	}
	for _, row := range rows {
		if got := impl.GatherFault(row.g); got != row.want {
			t.Errorf("GatherFault of %s = %d, want %d", row.name, got, row.want)
		}
	}
}

func TestGatherFaultAgainstModel(t *testing.T) {
	told := map[int64]int{}
	for _, g := range allGathers() {
		want := gatherFaultModel(g)
		told[want]++
		if got := impl.GatherFault(g); got != want {
			t.Fatalf("GatherFault(%v) = %d, want %d", g, got, want)
		}
	}
	for _, code := range []int64{impl.OK, impl.ErrMany, impl.ErrForm, impl.ErrRange} {
		if told[code] < 3 {
			t.Errorf("the code %d was asked %d times alone", code, told[code])
		}
	}
}

func TestPutPiece(t *testing.T) {
	some := gatherWith("abc", piece(5, "fgh"), piece(12, "m"))
	rows := []struct {
		name string
		g    impl.Gather
		at   int64
		data string
		want impl.Gather
	}{
		{"the first byte", impl.Gather{}, 0, "a", gatherWith("a")},
		{"a byte behind a gap", impl.Gather{}, 1, "b", gatherWith("", piece(1, "b"))},
		{"at the end of Done", gatherWith("abc"), 3, "de", gatherWith("abcde")},
		{"over the end of Done", gatherWith("abc"), 1, "XYde", gatherWith("abcde")},
		{"within Done", some, 0, "XYZ", some},
		{"within a piece", some, 6, "X", some},
		{"all of a piece", some, 5, "XYZ", some},
		{"touching a piece from below", some, 4, "e", gatherWith("abc", piece(4, "efgh"), piece(12, "m"))},
		{"touching a piece from above", some, 8, "i", gatherWith("abc", piece(5, "fghi"), piece(12, "m"))},
		{"touching Done and no piece", some, 3, "d", gatherWith("abcd", piece(5, "fgh"), piece(12, "m"))},
		{"touching Done and a piece", some, 3, "de", gatherWith("abcdefgh", piece(12, "m"))},
		{"touching two pieces", some, 8, "ijkl", gatherWith("abc", piece(5, "fghijklm"))},
		{"touching none", some, 9, "jk", gatherWith("abc", piece(5, "fgh"), piece(9, "jk"), piece(12, "m"))},
		{"behind all", some, 14, "o", gatherWith("abc", piece(5, "fgh"), piece(12, "m"), piece(14, "o"))},
		{"over several pieces", some, 4, "eXYZijklXn", gatherWith("abc", piece(4, "efghijklmn"))},
		{"over all", some, 0, "XXXdeXXXijklXn", gatherWith("abcdefghijklmn")},
		{"up to 400", impl.Gather{}, 398, "yz", gatherWith("", piece(398, "yz"))},
		{"the last byte", impl.Gather{Done: lettersOf(399)}, 399, string(lettersOf(400)[399:]), impl.Gather{Done: lettersOf(400)}},
		{"all at once", impl.Gather{}, 0, string(lettersOf(400)), impl.Gather{Done: lettersOf(400)}},
		{"no bytes at 0", impl.Gather{}, 0, "", impl.Gather{}},
		{"no bytes within Done", some, 1, "", some},
		{"no bytes behind Done", some, 4, "", some},
		{"no bytes behind all", some, 200, "", some},
		{"no bytes at 400", some, 400, "", some},
		{"no bytes at the end of all", impl.Gather{Done: lettersOf(400)}, 400, "", impl.Gather{Done: lettersOf(400)}},
		{"a nought where a nought may be missing", gatherWith("", piece(2, "\x00")), 1, "\x00\x01", gatherWith("", piece(1, "\x00\x00"))},
	}
	for _, row := range rows {
		if got := impl.PutPiece(row.g, row.at, []byte(row.data)); !samePut(got, impl.GatherResult{Gather: row.want}) {
			t.Errorf("PutPiece %s = %v, want %v", row.name, got, row.want)
		}
	}
}

func TestPutPieceWrong(t *testing.T) {
	touching := gatherWith("abc", piece(3, "d"))
	rows := []struct {
		name string
		g    impl.Gather
		at   int64
		data []byte
		want int64
	}{
		{"below 0", impl.Gather{}, -1, []byte("x"), impl.ErrRange},
		{"no bytes below 0", impl.Gather{}, -1, nil, impl.ErrRange},
		{"two bytes from below 0 on", impl.Gather{}, -1, []byte("xy"), impl.ErrRange},
		{"at the least int64", impl.Gather{}, math.MinInt64, []byte("x"), impl.ErrRange},
		{"at the greatest int64", impl.Gather{}, math.MaxInt64, []byte("x"), impl.ErrRange},
		{"no bytes at the greatest int64", impl.Gather{}, math.MaxInt64, nil, impl.ErrRange},
		{"one place behind 400", impl.Gather{}, 399, []byte("xy"), impl.ErrRange},
		{"at 400", impl.Gather{}, 400, []byte("x"), impl.ErrRange},
		{"no bytes at 401", impl.Gather{}, 401, nil, impl.ErrRange},
		{"401 bytes", impl.Gather{}, 0, lettersOf(401), impl.ErrRange},
		{"400 bytes at 1", impl.Gather{}, 1, lettersOf(400), impl.ErrRange},
		{"many bytes", impl.Gather{}, 0, lettersOf(100000), impl.ErrRange},
		{"many bytes below 0", impl.Gather{}, -99999, lettersOf(100000), impl.ErrRange},
		{"behind 400 where all is Done", impl.Gather{Done: lettersOf(400)}, 399, []byte("xy"), impl.ErrRange},
		{"a 41st piece", combOf(40), 81, []byte("x"), impl.ErrMany},
		{"range ahead of many", combOf(40), 399, []byte("xy"), impl.ErrRange},
		{"a fault of g", touching, 5, []byte("x"), impl.ErrForm},
		{"a fault of g ahead of the range", touching, -1, []byte("x"), impl.ErrForm},
		{"a fault of g without bytes", touching, 0, nil, impl.ErrForm},
		{"too many pieces that would be joined", combOf(41), 0, lettersOf(90), impl.ErrMany},
		{"too much Done", impl.Gather{Done: lettersOf(401)}, 399, []byte("xy"), impl.ErrMany},
	}
	for _, row := range rows {
		if got := impl.PutPiece(row.g, row.at, row.data); !samePut(got, impl.GatherResult{Code: row.want}) {
			t.Errorf("PutPiece %s = %v, want the code %d alone", row.name, got, row.want)
		}
	}
}

// At 40 pieces it hangs on what one more touches whether there would be too many.
func TestPutPieceAtFortyPieces(t *testing.T) {
	rows := []struct {
		name   string
		count  int
		at     int64
		data   string
		code   int64
		done   int
		pieces int
	}{
		{"a 40th", 39, 79, "x", impl.OK, 0, 40},
		{"a 40th behind a wider gap", 39, 200, "x", impl.OK, 0, 40},
		{"none, no bytes", 40, 200, "", impl.OK, 0, 40},
		{"none, all is there", 40, 79, "x", impl.OK, 0, 40},
		{"a 41st behind a gap", 40, 81, "x", impl.ErrMany, 0, 0},
		{"a 41st at the end of the stream", 40, 399, "x", impl.ErrMany, 0, 0},
		{"at the end of the last one", 40, 80, "x", impl.OK, 0, 40},
		{"joins two", 40, 2, "x", impl.OK, 0, 39},
		{"joins the last two", 40, 78, "x", impl.OK, 0, 39},
		{"joins Done and the first one", 40, 0, "x", impl.OK, 2, 39},
		{"joins Done and the first two", 40, 0, "xyz", impl.OK, 4, 38},
		{"goes over three", 40, 9, "vwxyz", impl.OK, 0, 38},
		{"goes over all", 40, 0, string(lettersOf(80)), impl.OK, 80, 0},
	}
	for _, row := range rows {
		g := combOf(row.count)
		got := impl.PutPiece(g, row.at, []byte(row.data))
		if got.Code != row.code || len(got.Gather.Done) != row.done || len(got.Gather.Pieces) != row.pieces {
			t.Errorf("PutPiece that %s = %v", row.name, got)
		}
		if !samePut(got, putModel(g, row.at, []byte(row.data))) {
			t.Errorf("PutPiece that %s = %v, not as the model", row.name, got)
		}
	}
	// Apart from the comb, too: 40 pieces with a wide gap into which a 41st fits.
	wide := combOf(20)
	for i := range 20 {
		wide.Pieces = append(wide.Pieces, piece(int64(301+2*i), "z"))
	}
	for at := int64(0); at < 400; at++ {
		for _, data := range []string{"q", "qr", "qrs"} {
			if got, want := impl.PutPiece(wide, at, []byte(data)), putModel(wide, at, []byte(data)); !samePut(got, want) {
				t.Fatalf("PutPiece of %q at %d beside 40 pieces = %v, want %v", data, at, got, want)
			}
		}
	}
}

func TestPutPieceAgainstModel(t *testing.T) {
	data := bytes.ToUpper(lettersOf(402))
	places := []int64{math.MinInt64, -2, -1, 0, 1, 2, 3, 4, 5, 6, 7, 8, 9, 11, 12, 29, 31, 77, 78, 79, 80, 81, 82, 150, 390, 391, 398, 399, 400, 401, math.MaxInt64 - 1, math.MaxInt64}
	told := map[int64]int{}
	for _, g := range allGathers() {
		for _, at := range places {
			for _, size := range []int{0, 1, 2, 3, 4, 7, 8, 40, 392, 400, 401} {
				want := putModel(g, at, data[:size])
				told[want.Code]++
				if got := impl.PutPiece(g, at, data[:size]); !samePut(got, want) {
					t.Fatalf("PutPiece(%v, %d, %d bytes) = %v, want %v", g, at, size, got, want)
				}
			}
		}
	}
	for _, code := range []int64{impl.OK, impl.ErrMany, impl.ErrForm, impl.ErrRange} {
		if told[code] < 100 {
			t.Errorf("the code %d was told %d times alone", code, told[code])
		}
	}
}

func TestHasByte(t *testing.T) {
	g := gatherWith("abc", piece(5, "f\x00h"), piece(399, "z"))
	for _, at := range []int64{0, 1, 2, 5, 6, 7, 399} {
		if !impl.HasByte(g, at) {
			t.Errorf("HasByte at %d is false", at)
		}
	}
	for _, at := range []int64{math.MinInt64, -399, -1, 3, 4, 8, 398, 400, 401, 65536, math.MaxInt64} {
		if impl.HasByte(g, at) {
			t.Errorf("HasByte at %d is true", at)
		}
	}
	for _, g := range allGathers() {
		right := gatherFaultModel(g) == impl.OK
		var row rowModel
		if right {
			row = rowOf(g)
		}
		for _, at := range append(edgeNumbers(), 3, 4, 5, 6, 7, 8, 9, 10, 11, 12, 13, 14, 79, 80, 199, 390, 398, 399, 400, 401) {
			if got, want := impl.HasByte(g, at), right && row.has(at); got != want {
				t.Fatalf("HasByte(%v, %d) = %v, want %v", g, at, got, want)
			}
		}
	}
}

func TestHoldOfAndMissingOf(t *testing.T) {
	rows := []struct {
		name                string
		g                   impl.Gather
		code, hold, missing int64
	}{
		{"the zero value", impl.Gather{}, impl.OK, 0, 0},
		{"empty lists", impl.Gather{Done: []byte{}, Pieces: []impl.Piece{}}, impl.OK, 0, 0},
		{"Done alone", gatherWith("abcde"), impl.OK, 0, 0},
		{"400 Done", impl.Gather{Done: lettersOf(400)}, impl.OK, 0, 0},
		{"one piece", gatherWith("", piece(3, "de")), impl.OK, 2, 3},
		{"Done and pieces", gatherWith("abc", piece(5, "fgh"), piece(12, "m")), impl.OK, 4, 6},
		{"the last place alone", gatherWith("", piece(399, "z")), impl.OK, 1, 399},
		{"all but the first", impl.Gather{Pieces: []impl.Piece{{At: 1, Data: lettersOf(399)}}}, impl.OK, 399, 1},
		{"40 pieces", combOf(40), impl.OK, 40, 40},
		{"41 pieces", combOf(41), impl.ErrMany, 0, 0},
		{"a piece that touches Done", gatherWith("abc", piece(3, "de")), impl.ErrForm, 0, 0},
		{"a piece behind 400", gatherWith("abc", piece(399, "de")), impl.ErrRange, 0, 0},
	}
	for _, row := range rows {
		if got := impl.HoldOf(row.g); got != (impl.IntResult{Code: row.code, Value: row.hold}) {
			t.Errorf("HoldOf %s = %v", row.name, got)
		}
		if got := impl.MissingOf(row.g); got != (impl.IntResult{Code: row.code, Value: row.missing}) {
			t.Errorf("MissingOf %s = %v", row.name, got)
		}
	}
	for _, g := range allGathers() {
		if got, want := impl.HoldOf(g), holdModel(g); got != want {
			t.Fatalf("HoldOf(%v) = %v, want %v", g, got, want)
		}
		if got, want := impl.MissingOf(g), missingModel(g); got != want {
			t.Fatalf("MissingOf(%v) = %v, want %v", g, got, want)
		}
	}
}

func TestFitsStream(t *testing.T) {
	g := gatherWith("abc", piece(5, "fgh"), piece(12, "m"))
	rows := []struct {
		name   string
		g      impl.Gather
		stream []byte
		want   bool
	}{
		{"nothing and nil", impl.Gather{}, nil, true},
		{"nothing and no bytes", impl.Gather{Done: []byte{}, Pieces: []impl.Piece{}}, []byte{}, true},
		{"nothing and a stream", impl.Gather{}, lettersOf(5), true},
		{"a byte and nil", gatherWith("a"), nil, false},
		{"a piece and nil", gatherWith("", piece(1, "b")), nil, false},
		{"Done and just that", gatherWith("abc"), lettersOf(3), true},
		{"Done and less", gatherWith("abc"), lettersOf(2), false},
		{"just as long", g, lettersOf(13), true},
		{"longer", g, lettersOf(14), true},
		{"longer than any stream", g, lettersOf(5000), true},
		{"one byte shorter", g, lettersOf(12), false},
		{"ends within a piece", g, lettersOf(7), false},
		{"ends ahead of the last piece", g, lettersOf(8), false},
		{"ends at Done", g, lettersOf(3), false},
		{"other bytes where there are none", g, []byte("abc..fgh....m..."), true},
		{"another byte in Done", g, []byte("aXcdefghijklm"), false},
		{"another first byte", g, []byte("Xbcdefghijklm"), false},
		{"another byte in a piece", g, []byte("abcdefghXjklX"), false},
		{"another byte at the end of a piece", g, []byte("abcdefgXijklm"), false},
		{"the whole stream", impl.Gather{Done: lettersOf(400)}, lettersOf(400), true},
		{"the last place alone", impl.Gather{Pieces: []impl.Piece{{At: 399, Data: lettersOf(400)[399:]}}}, lettersOf(400), true},
		{"the last place of a shorter one", impl.Gather{Pieces: []impl.Piece{{At: 399, Data: lettersOf(400)[399:]}}}, lettersOf(399), false},
		{"a piece that touches", gatherWith("abc", piece(3, "de")), lettersOf(10), false},
		{"a piece behind 400", impl.Gather{Pieces: []impl.Piece{{At: 400, Data: lettersOf(401)[400:]}}}, lettersOf(500), false},
		{"too much Done", impl.Gather{Done: lettersOf(401)}, lettersOf(401), false},
		{"a piece below 0", gatherWith("", piece(-1, "a")), lettersOf(10), false},
		{"a piece without Data", gatherWith("a", impl.Piece{At: 4}), lettersOf(10), false},
	}
	for _, row := range rows {
		if got := impl.FitsStream(row.g, row.stream); got != row.want {
			t.Errorf("FitsStream of %s = %v", row.name, got)
		}
	}
}

// streamOf is what a gather fits, other bytes standing where it has none.
func streamOf(g impl.Gather) []byte {
	stream := bytes.Repeat([]byte{'.'}, 400)
	copy(stream, g.Done)
	for _, p := range g.Pieces {
		copy(stream[min(max(p.At, 0), 400):], p.Data)
	}
	return stream
}

func TestFitsStreamAgainstModel(t *testing.T) {
	fits := map[bool]int{}
	for _, g := range allGathers() {
		stream := streamOf(g)
		for size := 0; size <= 400; size += 7 {
			turned := slices.Clone(stream)
			turned[size%400] ^= 1
			for _, s := range [][]byte{stream, stream[:size], stream[size:], turned, turned[:min(size+1, 400)]} {
				want := fitsModel(g, s)
				fits[want]++
				if got := impl.FitsStream(g, s); got != want {
					t.Fatalf("FitsStream(%v, %q) = %v, want %v", g, s, got, want)
				}
			}
		}
	}
	if fits[true] < 1000 || fits[false] < 1000 {
		t.Errorf("%d fit, %d do not: too few to tell", fits[true], fits[false])
	}
}
