package tests

import (
	"math"
	"math/big"
	"math/rand"
	"slices"
	"testing"

	"loop.example/g00230/impl"
)

// mixModel adds up all numbers, each times its power of 8191, and takes the modulus once, at the end.
func mixModel(list ...int64) int64 {
	sum, power := new(big.Int), big.NewInt(1)
	add := func(n int64) {
		sum.Add(sum, new(big.Int).Mul(whole(n), power))
	}
	for i := len(list) - 1; i >= 0; i-- {
		add(list[i])
		add(1)
		power.Mul(power, big.NewInt(8191))
	}
	add(17)
	return sum.Mod(sum, big.NewInt(1000003)).Int64() % 1000000
}

func isKey(n int64) bool { return n >= 1 && n <= 999999 }

func isNonce(n int64) bool { return n >= 0 && n <= 1000000 }

// tokenModel is of a key and a number behind it.
func tokenModel(key int64, behind int64) impl.IntResult {
	if !isKey(key) {
		return impl.IntResult{Code: impl.ErrRange}
	}
	return impl.IntResult{Value: mixModel(key, behind)}
}

func startModel(key int64) impl.IntResult {
	start := tokenModel(key, 2)
	start.Value %= 65536
	return start
}

func proofModel(mine int64, other int64, nonce int64) impl.IntResult {
	if !isKey(mine) || !isKey(other) || !isNonce(nonce) {
		return impl.IntResult{Code: impl.ErrRange}
	}
	return impl.IntResult{Value: mixModel(mine, other, nonce)}
}

// secretEdges are the bounds of keys and nonces and the multiples of the modulus, each with what is beside it, and the ends of int64.
func secretEdges() []int64 {
	list := []int64{math.MinInt64, math.MinInt64 + 1, math.MaxInt64 - 1, math.MaxInt64, 5, 7, 9, 123456, 1 << 16, 1 << 32, -(1 << 32)}
	last := math.MaxInt64 / int64(1000003) * 1000003
	for _, middle := range []int64{0, 999999, -999999, 1000003, -1000003, 2 * 1000003, -2 * 1000003, last, -last, 860753} {
		for off := int64(-2); off <= 2; off++ {
			list = append(list, middle+off)
		}
	}
	return list
}

// rightProofs are what proofs may be made of: at the bounds, drawn, and those whose mix is at an end of what mixes are.
func rightProofs() [][3]int64 {
	list := [][3]int64{
		{103, 210, 0}, {103, 210, 1}, {103, 210, 1000000}, {87, 24, 1000000}, {119, 396, 0}, {119, 396, 1},
		{5, 7, 9}, {7, 5, 9}, {5, 5, 5}, {5, 9, 7},
	}
	for _, mine := range []int64{1, 2, 999998, 999999} {
		for _, other := range []int64{1, 2, 999998, 999999} {
			for _, nonce := range []int64{0, 1, 999999, 1000000} {
				list = append(list, [3]int64{mine, other, nonce})
			}
		}
	}
	draw := rand.New(rand.NewSource(5))
	for range 400 {
		list = append(list, [3]int64{1 + draw.Int63n(999999), 1 + draw.Int63n(999999), draw.Int63n(1000001)})
	}
	return list
}

func TestSecretConstant(t *testing.T) {
	if impl.MaxKey != 999999 {
		t.Errorf("MaxKey is %d", impl.MaxKey)
	}
}

func TestMixOf(t *testing.T) {
	rows := []struct {
		list []int64
		want int64
	}{
		{nil, 17}, {[]int64{}, 17},
		{[]int64{0}, 139248}, {[]int64{1}, 139249}, {[]int64{-1}, 139247},
		{[]int64{1000003}, 139248}, {[]int64{1000002}, 139247}, {[]int64{1000004}, 139249},
		{[]int64{-1000003}, 139248}, {[]int64{-1000002}, 139249}, {[]int64{-1000004}, 139247},
		{[]int64{1000000}, 139245},
		{[]int64{math.MaxInt64}, 814592}, {[]int64{math.MinInt64}, 463906},
		{[]int64{5, 1}, 617905}, {[]int64{1, 5}, 585145}, {[]int64{5, 2}, 617906},
		{[]int64{5, 7, 9}, 293828}, {[]int64{7, 5, 9}, 462006},
		{[]int64{999999, 999999, 1000000}, 373198},
		// The modulus is above what is told: its highest three tell the same as its lowest.
		{[]int64{860751}, 999999}, {[]int64{860752}, 0}, {[]int64{860753}, 1}, {[]int64{860754}, 2},
		{[]int64{860755}, 0}, {[]int64{860756}, 1}, {[]int64{860757}, 2}, {[]int64{860758}, 3},
	}
	for _, row := range rows {
		if got := impl.MixOf(row.list); got != row.want {
			t.Errorf("MixOf(%v) = %d, want %d", row.list, got, row.want)
		}
	}
}

// checkMix also holds that what is mixed has at most six digits.
func checkMix(t *testing.T, list []int64) {
	t.Helper()
	got := impl.MixOf(list)
	if want := mixModel(list...); got != want {
		t.Errorf("MixOf(%v) = %d, want %d", list, got, want)
	}
	if got < 0 || got > 999999 {
		t.Errorf("MixOf(%v) = %d is not 0 to 999999", list, got)
	}
}

func TestMixOfAgainstModel(t *testing.T) {
	edges := secretEdges()
	for _, a := range edges {
		checkMix(t, []int64{a})
		for _, b := range edges {
			checkMix(t, []int64{a, b})
			checkMix(t, []int64{a, b, a})
		}
	}
	draw := rand.New(rand.NewSource(54))
	for count := range 60 {
		for range 10 {
			list := make([]int64, count)
			for i := range list {
				list[i] = int64(draw.Uint64())
				if draw.Intn(3) == 0 {
					list[i] = edges[draw.Intn(len(edges))]
				}
			}
			checkMix(t, list)
		}
	}
}

func TestMixOfLongList(t *testing.T) {
	list := slices.Repeat([]int64{math.MaxInt64, math.MinInt64, 1000002, -1}, 500)
	checkMix(t, list)
	checkMix(t, list[1:])
}

// Only what the modulus leaves of a number counts, wherever it stands.
func TestMixOfMultiplesOfTheModulus(t *testing.T) {
	for _, n := range []int64{0, 1, 5, 999999, 1000002} {
		for _, times := range []int64{-9000000000000, -2, -1, 1, 2, 9000000000000} {
			m := n + times*1000003
			for _, pair := range [][2][]int64{{{n}, {m}}, {{n, 3}, {m, 3}}, {{3, n}, {3, m}}} {
				if got, want := impl.MixOf(pair[1]), impl.MixOf(pair[0]); got != want {
					t.Errorf("MixOf(%v) = %d, of %v it is %d", pair[1], got, pair[0], want)
				}
			}
		}
	}
}

func TestKeyFault(t *testing.T) {
	for _, key := range []int64{1, 2, 5, 999998, 999999} {
		if got := impl.KeyFault(key); got != impl.OK {
			t.Errorf("KeyFault(%d) = %d", key, got)
		}
	}
	for _, key := range []int64{0, -1, -5, -999999, 1000000, 1000003, 1000004, 1 << 32, 1<<32 + 5, math.MinInt64, math.MaxInt64} {
		if got := impl.KeyFault(key); got != impl.ErrRange {
			t.Errorf("KeyFault(%d) = %d", key, got)
		}
	}
	for _, key := range secretEdges() {
		if got, want := impl.KeyFault(key), tokenModel(key, 1).Code; got != want {
			t.Errorf("KeyFault(%d) = %d, want %d", key, got, want)
		}
	}
}

func TestTokenOf(t *testing.T) {
	rows := []struct{ key, code, value int64 }{
		{5, impl.OK, 617905}, {1, impl.OK, 585141}, {999999, impl.OK, 544186},
		{0, impl.ErrRange, 0}, {1000000, impl.ErrRange, 0}, {-1, impl.ErrRange, 0}, {math.MinInt64, impl.ErrRange, 0}, {math.MaxInt64, impl.ErrRange, 0},
	}
	for _, row := range rows {
		want := impl.IntResult{Code: row.code, Value: row.value}
		if got := impl.TokenOf(row.key); got != want {
			t.Errorf("TokenOf(%d) = %v, want %v", row.key, got, want)
		}
	}
	for _, key := range secretEdges() {
		if got, want := impl.TokenOf(key), tokenModel(key, 1); got != want {
			t.Errorf("TokenOf(%d) = %v, want %v", key, got, want)
		}
	}
}

func TestStartOf(t *testing.T) {
	rows := []struct{ key, code, value int64 }{
		{5, impl.OK, 617906 % 65536}, {1, impl.OK, 585142 % 65536}, {999999, impl.OK, 544187 % 65536},
		{0, impl.ErrRange, 0}, {1000000, impl.ErrRange, 0}, {-1, impl.ErrRange, 0}, {math.MinInt64, impl.ErrRange, 0}, {math.MaxInt64, impl.ErrRange, 0},
	}
	for _, row := range rows {
		want := impl.IntResult{Code: row.code, Value: row.value}
		if got := impl.StartOf(row.key); got != want {
			t.Errorf("StartOf(%d) = %v, want %v", row.key, got, want)
		}
	}
	for _, key := range secretEdges() {
		if got, want := impl.StartOf(key), startModel(key); got != want {
			t.Errorf("StartOf(%d) = %v, want %v", key, got, want)
		}
	}
}

func TestTokensAndStartsOfManyKeys(t *testing.T) {
	for key := int64(1); key <= 999999; key += 97 {
		if got, want := impl.TokenOf(key), tokenModel(key, 1); got != want {
			t.Fatalf("TokenOf(%d) = %v, want %v", key, got, want)
		}
		if got, want := impl.StartOf(key), startModel(key); got != want {
			t.Fatalf("StartOf(%d) = %v, want %v", key, got, want)
		}
	}
}

func TestProofOf(t *testing.T) {
	rows := []struct{ mine, other, nonce, code, value int64 }{
		{5, 7, 9, impl.OK, 293828}, {7, 5, 9, impl.OK, 462006},
		{1, 1, 0, impl.OK, 875556}, {999999, 999999, 1000000, impl.OK, 373198},
		{103, 210, 1, impl.OK, 0}, {119, 396, 1, impl.OK, 0}, {103, 210, 1000000, impl.OK, 999999}, {87, 24, 1000000, impl.OK, 2},
		{0, 7, 9, impl.ErrRange, 0}, {1000000, 7, 9, impl.ErrRange, 0}, {-5, 7, 9, impl.ErrRange, 0},
		{math.MinInt64, 7, 9, impl.ErrRange, 0}, {math.MaxInt64, 7, 9, impl.ErrRange, 0},
		{5, 0, 9, impl.ErrRange, 0}, {5, 1000000, 9, impl.ErrRange, 0}, {5, -7, 9, impl.ErrRange, 0},
		{5, math.MinInt64, 9, impl.ErrRange, 0}, {5, math.MaxInt64, 9, impl.ErrRange, 0},
		{5, 7, -1, impl.ErrRange, 0}, {5, 7, 1000001, impl.ErrRange, 0}, {5, 7, 1000003, impl.ErrRange, 0},
		{5, 7, math.MinInt64, impl.ErrRange, 0}, {5, 7, math.MaxInt64, impl.ErrRange, 0},
		{0, 0, 9, impl.ErrRange, 0}, {0, 7, -1, impl.ErrRange, 0}, {5, 0, -1, impl.ErrRange, 0}, {0, 0, -1, impl.ErrRange, 0},
		{math.MaxInt64, math.MinInt64, math.MaxInt64, impl.ErrRange, 0},
	}
	for _, row := range rows {
		want := impl.IntResult{Code: row.code, Value: row.value}
		if got := impl.ProofOf(row.mine, row.other, row.nonce); got != want {
			t.Errorf("ProofOf(%d, %d, %d) = %v, want %v", row.mine, row.other, row.nonce, got, want)
		}
	}
}

func TestProofOfAgainstModel(t *testing.T) {
	edges := secretEdges()
	for _, mine := range edges {
		for _, other := range edges {
			for _, nonce := range edges {
				if got, want := impl.ProofOf(mine, other, nonce), proofModel(mine, other, nonce); got != want {
					t.Fatalf("ProofOf(%d, %d, %d) = %v, want %v", mine, other, nonce, got, want)
				}
			}
		}
	}
}
