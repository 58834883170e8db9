package tests

import (
	"math"
	"math/rand"
	"slices"
	"testing"

	"loop.example/g00230/impl"
)

// otherProofs are numbers that are not that proof: beside it, the same in other bounds, below 0, and the ends of int64.
func otherProofs(proof int64) []int64 {
	list := []int64{
		proof + 1, proof - 1, 0, 1, -1, -proof, ^proof, -proof - 1,
		proof + 1000000, proof - 1000000, proof + 1000003, proof - 1000003, proof + 65536, proof - 65536, proof % 65536, proof + 1<<32, proof - 1<<32,
		999999, 1000000, 1000002, 1000003, math.MinInt64, math.MinInt64 + proof, math.MinInt64 + 1, math.MaxInt64, math.MaxInt64 - 1,
	}
	return slices.DeleteFunc(list, func(n int64) bool { return n == proof })
}

func TestPromise5GoodForJustWhatWasMade(t *testing.T) {
	for _, of := range rightProofs() {
		mine, other, nonce := of[0], of[1], of[2]
		made := impl.ProofOf(mine, other, nonce)
		if made.Code != impl.OK || made.Value != mixModel(mine, other, nonce) {
			t.Fatalf("ProofOf(%d, %d, %d) = %v", mine, other, nonce, made)
		}
		if !impl.GoodProof(mine, other, nonce, made.Value) {
			t.Errorf("GoodProof(%d, %d, %d) is false at its proof %d", mine, other, nonce, made.Value)
		}
		for _, proof := range otherProofs(made.Value) {
			if impl.GoodProof(mine, other, nonce, proof) {
				t.Errorf("GoodProof(%d, %d, %d) is true at %d, the proof is %d", mine, other, nonce, proof, made.Value)
			}
		}
	}
}

// Of all that a segment can carry as a proof, and some more on both ends, one alone is good.
func TestPromise5OneProofAlone(t *testing.T) {
	for _, of := range [][3]int64{{5, 7, 9}, {7, 5, 9}, {103, 210, 1}, {119, 396, 1}, {103, 210, 1000000}, {999999, 999999, 1000000}} {
		made := impl.ProofOf(of[0], of[1], of[2])
		for proof := int64(-1100000); proof <= 1100000; proof++ {
			if impl.GoodProof(of[0], of[1], of[2], proof) != (proof == made.Value) {
				t.Fatalf("GoodProof of %v is not right at %d, the proof is %d", of, proof, made.Value)
			}
		}
	}
}

// The order counts: a proof of keys changed about is that of their own order.
func TestPromise5OrderOfNumbers(t *testing.T) {
	if impl.ProofOf(5, 7, 9).Value == impl.ProofOf(7, 5, 9).Value {
		t.Error("ProofOf does not ask whose key is whose")
	}
	if impl.GoodProof(7, 5, 9, impl.ProofOf(5, 7, 9).Value) || impl.GoodProof(5, 7, 9, impl.ProofOf(7, 5, 9).Value) || impl.GoodProof(5, 9, 7, impl.ProofOf(5, 7, 9).Value) {
		t.Error("a proof is good for keys changed about")
	}
	for _, of := range rightProofs() {
		mine, other, nonce := of[0], of[1], of[2]
		there, back := impl.ProofOf(mine, other, nonce), impl.ProofOf(other, mine, nonce)
		if there.Value != impl.MixOf([]int64{mine, other, nonce}) || back.Value != impl.MixOf([]int64{other, mine, nonce}) {
			t.Errorf("of %d, %d and %d: %v, changed about %v", mine, other, nonce, there, back)
		}
		if impl.GoodProof(other, mine, nonce, there.Value) != (there.Value == back.Value) {
			t.Errorf("GoodProof(%d, %d, %d) at %d is not right, the proof is %v", other, mine, nonce, there.Value, back)
		}
	}
}

// One number that is another makes a proof bad, but where both are mixed to the same.
func TestPromise5OtherNumbers(t *testing.T) {
	draw := rand.New(rand.NewSource(55))
	bad := 0
	for _, of := range rightProofs() {
		proof := impl.ProofOf(of[0], of[1], of[2]).Value
		for place := range of {
			for _, n := range []int64{of[place] + 1, of[place] - 1, 1, 999999, 1 + draw.Int63n(999999)} {
				turned := of
				turned[place] = n
				want := proofModel(turned[0], turned[1], turned[2])
				good := want.Code == impl.OK && want.Value == proof
				if impl.GoodProof(turned[0], turned[1], turned[2], proof) != good {
					t.Errorf("GoodProof of %v at the proof %d of %v is not %v", turned, proof, of, good)
				}
				if !good {
					bad++
				}
			}
		}
	}
	if bad < 1000 {
		t.Errorf("only %d proofs of other numbers were bad", bad)
	}
}

// A key or a nonce that is none has no good proof, not even 0 or what the numbers would be mixed to.
func TestPromise5NoProofOfFaults(t *testing.T) {
	for _, mine := range secretEdges() {
		for _, other := range secretEdges() {
			for _, nonce := range []int64{0, 9, 1000000, -1, 1000001, 1000003, math.MinInt64, math.MaxInt64} {
				if proofModel(mine, other, nonce).Code == impl.OK {
					continue
				}
				if got := impl.ProofOf(mine, other, nonce); got != (impl.IntResult{Code: impl.ErrRange}) {
					t.Fatalf("ProofOf(%d, %d, %d) = %v", mine, other, nonce, got)
				}
				for _, proof := range []int64{0, 1, -1, impl.ErrRange, impl.MixOf([]int64{mine, other, nonce}), math.MinInt64, math.MaxInt64} {
					if impl.GoodProof(mine, other, nonce, proof) {
						t.Fatalf("GoodProof(%d, %d, %d) is true at %d", mine, other, nonce, proof)
					}
				}
			}
		}
	}
}

func TestPromise1MixedListIsNotChanged(t *testing.T) {
	back := []int64{5, -7, math.MinInt64, math.MaxInt64, 1000003, 0, 77, 78}
	kept := slices.Clone(back)
	for count := range back {
		list := back[:count]
		first := impl.MixOf(list)
		if !slices.Equal(back, kept) {
			t.Fatalf("MixOf changed its list: %v, was %v", back, kept)
		}
		if again := impl.MixOf(list); again != first {
			t.Errorf("MixOf tells %d, then %d", first, again)
		}
	}
}

// What is answered hangs on the arguments alone: whatever was called between, a call answers the same again.
func TestPromise1SecretsSameArgumentsSameAnswers(t *testing.T) {
	type answers struct {
		mix, none, fault    int64
		token, proof, start impl.IntResult
		good                bool
	}
	ask := func(a int64, b int64) answers {
		return answers{
			mix: impl.MixOf([]int64{a, b}), none: impl.MixOf(nil), fault: impl.KeyFault(a),
			token: impl.TokenOf(a), proof: impl.ProofOf(a, b, 9), start: impl.StartOf(a), good: impl.GoodProof(a, b, 9, 293828),
		}
	}
	edges := secretEdges()
	var first []answers
	for _, a := range edges {
		for _, b := range edges {
			first = append(first, ask(a, b))
		}
	}
	for i, was := range slices.Backward(first) {
		a, b := edges[i/len(edges)], edges[i%len(edges)]
		if got := ask(a, b); got != was {
			t.Errorf("of %d and %d: %v, then %v", a, b, was, got)
		}
	}
}
