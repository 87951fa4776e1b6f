package tests

import (
	"math"
	"testing"

	"loop.example/milepost/impl"
)

const maxAt = 100000000

var plain = impl.Rules{Slip: 100, Jolt: 2, Mark: 5, Long: 50, Loose: 3}

func bound(low, high int) impl.Bound { return impl.Bound{Low: low, High: high} }

func slipping(slip, jolt int) impl.Rules { return impl.Rules{Slip: slip, Jolt: jolt, Long: 1} }

func misread(mark int) impl.Rules { return impl.Rules{Mark: mark, Long: 1} }

// wrongRules has one set of rules for each range left by one at either end, and some at the ends of int.
func wrongRules() []impl.Rules {
	var out []impl.Rules
	add := func(change func(r *impl.Rules)) {
		r := plain
		change(&r)
		out = append(out, r)
	}
	for _, n := range []int{-1, 501, math.MinInt, math.MaxInt} {
		add(func(r *impl.Rules) { r.Slip = n })
	}
	for _, n := range []int{-1, 1001, math.MinInt, math.MaxInt} {
		add(func(r *impl.Rules) { r.Jolt = n })
	}
	for _, n := range []int{-1, 10001, math.MinInt, math.MaxInt} {
		add(func(r *impl.Rules) { r.Mark = n })
	}
	for _, n := range []int{0, -1, 1000001, math.MinInt, math.MaxInt} {
		add(func(r *impl.Rules) { r.Long = n })
	}
	for _, n := range []int{-1, 10001, math.MinInt, math.MaxInt} {
		add(func(r *impl.Rules) { r.Loose = n })
	}
	return append(out, impl.Rules{})
}

func wrongBounds() []impl.Bound {
	return []impl.Bound{
		bound(1, 0), bound(0, -1), bound(maxAt, -maxAt),
		bound(-maxAt-1, 0), bound(0, maxAt+1), bound(-maxAt-1, maxAt), bound(-maxAt, maxAt+1),
		bound(-maxAt-1, -maxAt-1), bound(maxAt+1, maxAt+1),
		bound(math.MinInt, math.MaxInt), bound(math.MaxInt, math.MinInt),
		bound(math.MinInt, math.MinInt), bound(math.MaxInt, math.MaxInt),
		bound(math.MinInt, 0), bound(0, math.MaxInt),
	}
}

func TestLimits(t *testing.T) {
	if impl.MaxAt != maxAt || impl.MaxSlip != 500 || impl.MaxMarks != 100 {
		t.Error(impl.MaxAt, impl.MaxSlip, impl.MaxMarks)
	}
}

func TestBoundOk(t *testing.T) {
	for _, b := range []impl.Bound{{}, bound(3, 3), bound(-5, 7), bound(-7, -5), bound(-maxAt, maxAt), bound(-maxAt, -maxAt), bound(maxAt, maxAt)} {
		if !impl.BoundOk(b) {
			t.Errorf("%v is refused", b)
		}
	}
	for _, b := range wrongBounds() {
		if impl.BoundOk(b) {
			t.Errorf("%v is accepted", b)
		}
	}
}

func TestRulesOk(t *testing.T) {
	for _, r := range []impl.Rules{
		plain,
		{Slip: 0, Jolt: 0, Mark: 0, Long: 1, Loose: 0},
		{Slip: 500, Jolt: 1000, Mark: 10000, Long: 1000000, Loose: 10000},
		{Slip: 500, Long: 1}, {Jolt: 1000, Long: 1}, {Mark: 10000, Long: 1}, {Long: 1000000}, {Long: 1, Loose: 10000},
	} {
		if !impl.RulesOk(r) {
			t.Errorf("%+v is refused", r)
		}
	}
	for _, r := range wrongRules() {
		if impl.RulesOk(r) {
			t.Errorf("%+v is accepted", r)
		}
	}
}

func TestWheelCases(t *testing.T) {
	for _, c := range []struct {
		name    string
		r       impl.Rules
		b       impl.Bound
		counted int
		want    impl.Bound
	}{
		{"exact wheels", slipping(0, 0), bound(10, 20), 7, bound(17, 27)},
		{"exact wheels, nothing counted", slipping(0, 0), bound(10, 20), 0, bound(10, 20)},
		{"exact wheels, most counted", slipping(0, 0), bound(10, 20), 100000, bound(100010, 100020)},
		{"jolt alone", slipping(0, 3), bound(10, 20), 7, bound(14, 30)},
		{"jolt alone, nothing counted", slipping(0, 3), bound(10, 20), 0, bound(10, 23)},
		{"jolt as great as what is counted", slipping(0, 7), bound(10, 20), 7, bound(10, 34)},
		{"jolt one less than what is counted", slipping(0, 6), bound(10, 20), 7, bound(11, 33)},
		{"most jolt, nothing counted", slipping(0, 1000), bound(10, 20), 0, bound(10, 1020)},
		{"slip alone, rounded at both ends", slipping(100, 0), bound(10, 20), 10, bound(20, 31)},
		{"slip alone, no rounding below", slipping(100, 0), bound(0, 0), 11, bound(10, 12)},
		{"slip alone, no rounding above", slipping(100, 0), bound(0, 0), 9, bound(9, 10)},
		{"slip alone, nothing counted", slipping(100, 0), bound(10, 20), 0, bound(10, 20)},
		{"most slip, nothing counted", slipping(500, 0), bound(10, 20), 0, bound(10, 20)},
		{"most slip, one counted", slipping(500, 0), bound(0, 0), 1, bound(1, 2)},
		{"most slip, no rounding", slipping(500, 0), bound(0, 0), 3, bound(2, 6)},
		{"most slip, rounded below", slipping(500, 0), bound(0, 0), 4, bound(3, 8)},
		{"most slip, most counted", slipping(500, 0), bound(0, 0), 100000, bound(66667, 200000)},
		{"most slip and jolt, nothing counted", slipping(500, 1000), bound(0, 0), 0, bound(0, 2000)},
		{"most slip and jolt, most counted", slipping(500, 1000), bound(0, 0), 100000, bound(66000, 202000)},
		{"least slip", slipping(1, 0), bound(0, 0), 1000, bound(1000, 1001)},
		{"least slip, one below its first whole", slipping(1, 0), bound(0, 0), 998, bound(998, 998)},
		{"least slip, at its first whole", slipping(1, 0), bound(0, 0), 999, bound(999, 1000)},
		{"below 0", slipping(100, 2), bound(-50, -40), 100, bound(40, 73)},
		{"all of the way", slipping(0, 0), bound(-maxAt, maxAt), 0, bound(-maxAt, maxAt)},
		{"the high end stays", slipping(0, 0), bound(-maxAt, maxAt), 5, bound(-maxAt+5, maxAt)},
		{"both ends stay", slipping(0, 0), bound(maxAt, maxAt), 5, bound(maxAt, maxAt)},
		{"the high end just comes to MaxAt", slipping(0, 0), bound(0, maxAt-5), 5, bound(5, maxAt)},
		{"the high end would be one beyond", slipping(0, 0), bound(0, maxAt-5), 6, bound(6, maxAt)},
		{"the low end just comes to MaxAt", slipping(0, 0), bound(maxAt-5, maxAt), 5, bound(maxAt, maxAt)},
		{"the low end would be one beyond", slipping(0, 0), bound(maxAt-5, maxAt), 6, bound(maxAt, maxAt)},
		{"at the beginning of the way", slipping(0, 3), bound(-maxAt, -maxAt), 2, bound(-maxAt, -maxAt+5)},
	} {
		if got := impl.Wheel(c.r, c.b, c.counted); got != c.want {
			t.Errorf("%s: %v, not %v", c.name, got, c.want)
		}
	}
}

// mayCount is the document's own sentence, which the closed forms must agree with.
func mayCount(r impl.Rules, far, counted int) bool {
	off := max(far-counted, counted-far)
	return 1000*off <= r.Slip*far+1000*r.Jolt
}

// searched finds the least and the most by asking of every distance whether it may be.
func searched(r impl.Rules, counted int) (least, most int) {
	least, most = -1, -1
	for far := range 2*(counted+r.Jolt) + 10 {
		if mayCount(r, far, counted) {
			if least < 0 {
				least = far
			}
			most = far
		}
	}
	return least, most
}

func checkSearched(t *testing.T, r impl.Rules, counted int) {
	t.Helper()
	least, most := searched(r, counted)
	if got := impl.Wheel(r, bound(-3, 4), counted); got != bound(-3+least, 4+most) {
		t.Errorf("%+v counted %d: %v, but the train came %d to %d", r, counted, got, least, most)
	}
}

func TestWheelAsSearched(t *testing.T) {
	for _, slip := range []int{0, 1, 2, 7, 99, 100, 333, 499, 500} {
		for _, jolt := range []int{0, 1, 2, 9, 50} {
			for counted := range 130 {
				checkSearched(t, slipping(slip, jolt), counted)
			}
		}
		for _, jolt := range []int{0, 1, 999, 1000} {
			for _, counted := range []int{0, 1, 999, 1000, 1001, 2000, 99999, 100000} {
				checkSearched(t, slipping(slip, jolt), counted)
			}
		}
	}
}

func TestWheelWrong(t *testing.T) {
	b := bound(100, 110)
	for _, r := range wrongRules() {
		if got := impl.Wheel(r, b, 5); got != (impl.Bound{}) {
			t.Errorf("rules %+v: %v", r, got)
		}
	}
	for _, w := range wrongBounds() {
		if got := impl.Wheel(plain, w, 5); got != (impl.Bound{}) {
			t.Errorf("bound %v: %v", w, got)
		}
	}
	for _, n := range []int{-1, 100001, math.MinInt, math.MaxInt} {
		if got := impl.Wheel(plain, b, n); got != (impl.Bound{}) {
			t.Errorf("counted %d: %v", n, got)
		}
	}
}

func TestReadCases(t *testing.T) {
	b := bound(100, 110)
	for _, c := range []struct {
		name string
		r    impl.Rules
		b    impl.Bound
		at   int
		want impl.Bound
	}{
		{"the mark within the bound", misread(2), b, 105, bound(103, 107)},
		{"the bound within the mark's", misread(20), b, 105, b},
		{"the same", misread(5), b, 105, b},
		{"over the low end", misread(5), b, 98, bound(100, 103)},
		{"over the high end", misread(5), b, 108, bound(103, 110)},
		{"touches the low end", misread(5), b, 95, bound(100, 100)},
		{"touches the high end", misread(5), b, 115, bound(110, 110)},
		{"misses the low end by one", misread(5), b, 94, bound(89, 110)},
		{"misses the high end by one", misread(5), b, 116, bound(100, 121)},
		{"exact mark within", misread(0), b, 104, bound(104, 104)},
		{"exact mark at the low end", misread(0), b, 100, bound(100, 100)},
		{"exact mark at the high end", misread(0), b, 110, bound(110, 110)},
		{"exact mark one below", misread(0), b, 99, bound(99, 110)},
		{"exact mark one above", misread(0), b, 111, bound(100, 111)},
		{"a mark far behind", misread(1), bound(5000, 5001), 10, bound(9, 5001)},
		{"a mark far ahead", misread(1), bound(-5000, -4999), 10, bound(-5000, 11)},
		{"most misread", misread(10000), bound(-maxAt, maxAt), 50000, bound(40000, 60000)},
		{"place 0, below it too", misread(10000), bound(-maxAt, maxAt), 0, bound(-10000, 10000)},
		{"place 0 and a bound at the beginning", misread(3), bound(-maxAt, -maxAt), 0, bound(-maxAt, 3)},
		{"place MaxAt, its high end stays", misread(10000), bound(-maxAt, maxAt), maxAt, bound(maxAt-10000, maxAt)},
		{"place MaxAt that misses, its high end stays", misread(7), bound(0, 0), maxAt, bound(0, maxAt)},
		{"the mark's high end just comes to MaxAt", misread(7), bound(0, 0), maxAt - 7, bound(0, maxAt)},
		{"the mark's high end would be one beyond", misread(7), bound(0, 0), maxAt - 6, bound(0, maxAt)},
		{"place MaxAt, exact, all of the way", misread(0), bound(-maxAt, maxAt), maxAt, bound(maxAt, maxAt)},
		{"the wheels' faults do not matter", impl.Rules{Slip: 500, Jolt: 1000, Mark: 2, Long: 9, Loose: 9}, b, 105, bound(103, 107)},
	} {
		if got := impl.Read(c.r, c.b, c.at); got != c.want {
			t.Errorf("%s: %v, not %v", c.name, got, c.want)
		}
	}
}

// TestReadHoldsWhatCanBe asks of every place whether it is in what Read leaves.
func TestReadHoldsWhatCanBe(t *testing.T) {
	for mark := range 4 {
		for low := range 8 {
			for high := low; high < 12; high++ {
				for at := range 20 {
					checkRead(t, misread(mark), bound(low, high), at)
				}
			}
		}
	}
}

func checkRead(t *testing.T, r impl.Rules, b impl.Bound, at int) {
	t.Helper()
	isIn := func(x int, b impl.Bound) bool { return b.Low <= x && x <= b.High }
	own := bound(at-r.Mark, at+r.Mark)
	got := impl.Read(r, b, at)
	both := 0
	for x := -10; x < 40; x++ {
		if isIn(x, b) && isIn(x, own) {
			both++
			if !isIn(x, got) {
				t.Errorf("mark %d, %v, at %d: %v is without %d", r.Mark, b, at, got, x)
			}
		}
	}
	if both > 0 && got.High-got.Low+1 != both {
		t.Errorf("mark %d, %v, at %d: %v has not just what is in both", r.Mark, b, at, got)
	}
	if both == 0 && got != bound(min(b.Low, own.Low), max(b.High, own.High)) {
		t.Errorf("mark %d, %v, at %d: %v does not hold both", r.Mark, b, at, got)
	}
}

func TestReadWrong(t *testing.T) {
	b := bound(100, 110)
	for _, r := range wrongRules() {
		if got := impl.Read(r, b, 105); got != (impl.Bound{}) {
			t.Errorf("rules %+v: %v", r, got)
		}
	}
	for _, w := range wrongBounds() {
		if got := impl.Read(plain, w, 105); got != (impl.Bound{}) {
			t.Errorf("bound %v: %v", w, got)
		}
	}
	for _, at := range []int{-1, maxAt + 1, math.MinInt, math.MaxInt} {
		if got := impl.Read(plain, b, at); got != (impl.Bound{}) {
			t.Errorf("at %d: %v", at, got)
		}
	}
}

func TestMeetsAndBothCases(t *testing.T) {
	all := bound(math.MinInt, math.MaxInt)
	for _, c := range []struct {
		a, b  impl.Bound
		meets bool
		both  impl.Bound
	}{
		{bound(1, 5), bound(3, 9), true, bound(3, 5)},
		{bound(1, 9), bound(3, 5), true, bound(3, 5)},
		{bound(3, 5), bound(3, 5), true, bound(3, 5)},
		{bound(-9, -3), bound(-5, -1), true, bound(-5, -3)},
		{bound(1, 3), bound(3, 5), true, bound(3, 3)},
		{bound(1, 3), bound(4, 5), false, impl.Bound{}},
		{bound(1, 2), bound(8, 9), false, impl.Bound{}},
		{bound(0, 0), bound(0, 0), true, bound(0, 0)},
		{bound(0, 0), bound(1, 1), false, impl.Bound{}},
		{bound(-maxAt-1, maxAt+1), bound(-maxAt, maxAt), true, bound(-maxAt, maxAt)},
		// Low above High: the words of the document hold of any numbers.
		{bound(5, 3), bound(1, 9), true, bound(5, 3)},
		{bound(5, 3), bound(5, 3), false, impl.Bound{}},
		{bound(5, 3), bound(4, 4), false, impl.Bound{}},
		{bound(5, 3), bound(3, 5), true, bound(5, 3)},
		{bound(5, 3), bound(4, 5), false, impl.Bound{}},
		{bound(5, 3), bound(3, 4), false, impl.Bound{}},
		{all, all, true, all},
		{all, bound(7, 8), true, bound(7, 8)},
		{all, bound(math.MaxInt, math.MaxInt), true, bound(math.MaxInt, math.MaxInt)},
		{all, bound(math.MinInt, math.MinInt), true, bound(math.MinInt, math.MinInt)},
		{bound(math.MinInt, math.MinInt), bound(math.MaxInt, math.MaxInt), false, impl.Bound{}},
		{bound(math.MinInt, -1), bound(0, math.MaxInt), false, impl.Bound{}},
		{bound(math.MinInt, 0), bound(0, math.MaxInt), true, bound(0, 0)},
		{bound(math.MaxInt, math.MinInt), all, true, bound(math.MaxInt, math.MinInt)},
		{bound(math.MaxInt, math.MinInt), bound(0, 0), false, impl.Bound{}},
	} {
		checkPair(t, c.a, c.b, c.meets, c.both)
		checkPair(t, c.b, c.a, c.meets, c.both)
	}
}

func checkPair(t *testing.T, a, b impl.Bound, meets bool, both impl.Bound) {
	t.Helper()
	if got := impl.Meets(a, b); got != meets {
		t.Errorf("Meets %v %v: %v", a, b, got)
	}
	if got := impl.Both(a, b); got != both {
		t.Errorf("Both %v %v: %v, not %v", a, b, got, both)
	}
}
