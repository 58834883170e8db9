package impl

const OK = 0
const ErrForm = 1
const ErrMany = 2
const ErrRange = 3
const ErrNone = 4
const ErrText = 5
const ErrSum = 6
const ErrTaken = 7
const ErrBusy = 8
const ErrKey = 9
const ErrState = 10
const Round = 65536

type IntResult struct {
	Code  int64
	Value int64
}
type BytesResult struct {
	Code  int64
	Bytes []byte
}
type TextResult struct {
	Code int64
	Text string
}

// halfRound is where what lies ahead turns into what lies behind.
const halfRound = Round / 2

// maxNear bounds what UnwrapNear takes, so that adding a step to it cannot overflow.
const maxNear = 1000000000

func WrapNumber(n int64) int64 {
	return int64(uint16(n))
}

// AddNumber narrows both ahead of adding: the sum of two int64 could overflow where 16 bits may go round.
func AddNumber(a int64, n int64) int64 {
	return int64(uint16(a) + uint16(n))
}

// stepsUp is how many steps lead from a up to b, going round where b is the lower one.
func stepsUp(a int64, b int64) int64 {
	return int64(uint16(b) - uint16(a))
}

func Ahead(a int64, b int64) int64 {
	steps := stepsUp(a, b)
	if steps >= halfRound {
		return steps - Round
	}
	return steps
}

func IsAhead(a int64, b int64) bool {
	return Ahead(a, b) > 0
}

func InSpan(a int64, from int64, size int64) bool {
	return stepsUp(from, a) < size
}

func MoreOf(list []int64) int64 {
	return furthest(list...)
}

// furthest answers a number as it stands in the list, not what Round leaves of it: lists are not wrapped.
func furthest(list ...int64) int64 {
	if len(list) == 0 {
		return 0
	}
	best := list[0]
	for _, n := range list[1:] {
		if IsAhead(best, n) {
			best = n
		}
	}
	return best
}

func UnwrapNear(a int64, near int64) IntResult {
	if near < 0 || near > maxNear {
		return IntResult{Code: ErrRange}
	}
	place := near + Ahead(near, a)
	if place < 0 {
		return IntResult{Code: ErrNone}
	}
	return IntResult{Code: OK, Value: place}
}
