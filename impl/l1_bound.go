package impl

import "cmp"

const (
	MaxAt    = 100000000
	MaxSlip  = 500
	MaxMarks = 100
)

const (
	thousand   = 1000
	maxJolt    = 1000
	maxMarkOff = 10000
	maxLong    = 1000000
	maxLoose   = 10000
	maxCounted = 100000
)

// Bound is a stretch of a way in which a train's front certainly is, from its least place to its greatest.
type Bound struct {
	Low  int
	High int
}

// interval holds both of its ends. It only compares and never adds, so that it is right for any numbers, those at the ends of int too.
type interval[T cmp.Ordered] struct {
	low  T
	high T
}

func (i interval[T]) has(x T) bool { return i.low <= x && x <= i.high }

func (i interval[T]) nearest(x T) T { return min(max(x, i.low), i.high) }

func (i interval[T]) meets(o interval[T]) bool { return i.low <= o.high && o.low <= i.high }

func (i interval[T]) shared(o interval[T]) interval[T] {
	return interval[T]{low: max(i.low, o.low), high: min(i.high, o.high)}
}

func (i interval[T]) hull(o interval[T]) interval[T] {
	return interval[T]{low: min(i.low, o.low), high: max(i.high, o.high)}
}

func upTo(most int) interval[int] { return interval[int]{low: 0, high: most} }

func wholeWay() interval[int] { return interval[int]{low: -MaxAt, high: MaxAt} }

func intervalOf(b Bound) interval[int] { return interval[int]{low: b.Low, high: b.High} }

func boundOf(i interval[int]) Bound { return Bound{Low: i.low, High: i.high} }

func BoundOk(b Bound) bool {
	onWay := wholeWay().has
	return onWay(b.Low) && onWay(b.High) && b.Low <= b.High
}

// Rules is how wheels may err: of a thousand that the train truly came, so many may be counted too many or too few, and on top of that so much each time; how far off a mark may be read; how long the train is, and by how much that may be wrong.
type Rules struct {
	Slip  int
	Jolt  int
	Mark  int
	Long  int
	Loose int
}

func RulesOk(r Rules) bool {
	length := interval[int]{low: 1, high: maxLong}
	return upTo(MaxSlip).has(r.Slip) && upTo(maxJolt).has(r.Jolt) && upTo(maxMarkOff).has(r.Mark) &&
		length.has(r.Long) && upTo(maxLoose).has(r.Loose)
}

// mayCount is of numbers in their ranges only: others could run over.
func mayCount(r Rules, far, counted int) bool {
	off := max(far-counted, counted-far)
	return thousand*off <= r.Slip*far+thousand*r.Jolt
}

func Wheel(r Rules, b Bound, counted int) Bound {
	if !RulesOk(r) || !BoundOk(b) || !upTo(maxCounted).has(counted) {
		return Bound{}
	}
	stay := wholeWay().nearest
	return Bound{Low: stay(b.Low + leastCome(r, counted)), High: stay(b.High + mostCome(r, counted))}
}

// leastCome rounds up: one less than the answer is already too little for the wheels to have counted so much.
func leastCome(r Rules, counted int) int {
	beyondJolt := max(counted-r.Jolt, 0)
	perCome := thousand + r.Slip
	return (thousand*beyondJolt + perCome - 1) / perCome
}

// mostCome rounds down: one more than the answer is already too much for the wheels to have counted so little. MaxSlip keeps the divisor above 0.
func mostCome(r Rules, counted int) int {
	return thousand * (counted + r.Jolt) / (thousand - r.Slip)
}

func Read(r Rules, b Bound, at int) Bound {
	if !RulesOk(r) || !BoundOk(b) || !upTo(MaxAt).has(at) {
		return Bound{}
	}
	mark := boundOfMark(r, at)
	if Meets(b, mark) {
		return Both(b, mark)
	}
	// Mark and bound speak against each other, and nothing says which is wrong: what holds both is safe.
	return boundOf(intervalOf(b).hull(intervalOf(mark)))
}

func boundOfMark(r Rules, at int) Bound {
	stay := wholeWay().nearest
	return Bound{Low: stay(at - r.Mark), High: stay(at + r.Mark)}
}

func Meets(a, b Bound) bool { return intervalOf(a).meets(intervalOf(b)) }

func Both(a, b Bound) Bound {
	if !Meets(a, b) {
		return Bound{}
	}
	return boundOf(intervalOf(a).shared(intervalOf(b)))
}
