package tests

import (
	"math"
	"slices"
	"testing"

	"loop.example/milepost/impl"
)

func train(long, loose int) impl.Rules { return impl.Rules{Long: long, Loose: loose} }

func at(low, high int) impl.State { return known(low, high, 0, -1, 0) }

func nowhere() impl.Bound { return bound(1, 0) }

// wrongPlaces are states of a place that is not known, with a bound or without one, or whose bound is not right.
func wrongPlaces() []impl.State {
	out := []impl.State{
		{}, unknown(0, 0), unknown(5, 3),
		{Bound: bound(200, 220), Last: -1}, {Bound: bound(200, 220), Since: 5, Last: 1, Odd: 3}, {Bound: bound(-maxAt, maxAt), Last: -1},
	}
	for _, b := range wrongBounds() {
		out = append(out, impl.State{Known: true, Bound: b, Last: -1}, impl.State{Bound: b, Last: -1})
	}
	return out
}

// oddNumbers has a state in which all but what the body asks for is out of its range.
func oddNumbers(low, high int) []impl.State {
	var out []impl.State
	for _, n := range []int{-2, 2, 100, -1, most + 1, math.MinInt, math.MaxInt} {
		out = append(out, known(low, high, n, -1, 0), known(low, high, 0, n, 0), known(low, high, 0, -1, n), known(low, high, n, n, n))
	}
	return out
}

func wrongAts() []int {
	return []int{-maxAt - 1, maxAt + 1, -2 * maxAt, 2 * maxAt, math.MinInt, math.MinInt + 1, math.MaxInt, math.MaxInt - 1}
}

func TestHoldsAndSurelyCases(t *testing.T) {
	for _, c := range []struct {
		name          string
		r             impl.Rules
		s             impl.State
		holds, surely impl.Bound
	}{
		{"a bound narrower than the train", plain, at(200, 220), bound(147, 220), bound(173, 200)},
		{"below 0", plain, at(-220, -200), bound(-273, -200), bound(-247, -220)},
		{"over 0", plain, at(-10, 10), bound(-63, 10), bound(-37, -10)},
		{"one place", plain, at(200, 200), bound(147, 200), bound(153, 200)},
		{"one place, 0", plain, at(0, 0), bound(-53, 0), bound(-47, 0)},
		{"one below just narrow enough", plain, at(200, 246), bound(147, 246), bound(199, 200)},
		{"just narrow enough", plain, at(200, 247), bound(147, 247), bound(200, 200)},
		{"wider by one", plain, at(200, 248), bound(147, 248), nowhere()},
		{"far too wide", plain, at(200, 5000), bound(147, 5000), nowhere()},
		{"it would come to from 1 to 0", train(10, 0), at(0, 11), bound(-10, 11), nowhere()},
		{"it comes to from 0 to 0", train(10, 0), at(0, 10), bound(-10, 10), bound(0, 0)},

		{"a length that is not wrong", train(50, 0), at(200, 220), bound(150, 220), bound(170, 200)},
		{"the shortest length", train(1, 0), at(200, 200), bound(199, 200), bound(199, 200)},
		{"the shortest length, just narrow enough", train(1, 0), at(200, 201), bound(199, 201), bound(200, 200)},
		{"the shortest length, wider by one", train(1, 0), at(200, 202), bound(199, 202), nowhere()},

		{"Long one above Loose", train(8, 7), at(200, 200), bound(185, 200), bound(199, 200)},
		{"Long one above Loose, just narrow enough", train(8, 7), at(200, 201), bound(185, 201), bound(200, 200)},
		{"Long one above Loose, wider by one", train(8, 7), at(200, 202), bound(185, 202), nowhere()},
		{"Long is Loose, one place", train(7, 7), at(200, 200), bound(186, 200), bound(200, 200)},
		{"Long is Loose, two places", train(7, 7), at(200, 201), bound(186, 201), nowhere()},
		{"Long one below Loose, one place", train(6, 7), at(200, 200), bound(187, 200), bound(200, 200)},
		{"Long one below Loose, two places", train(6, 7), at(200, 201), bound(187, 201), nowhere()},
		{"Long far below Loose, one place", train(1, 10000), at(200, 200), bound(-9801, 200), bound(200, 200)},
		{"Long far below Loose, two places", train(1, 10000), at(200, 201), bound(-9801, 201), nowhere()},

		{"the longest train", train(1000000, 10000), at(0, 0), bound(-1010000, 0), bound(-990000, 0)},
		{"the longest train, just narrow enough", train(1000000, 10000), at(-5, 989995), bound(-1010005, 989995), bound(-5, -5)},
		{"the longest train, wider by one", train(1000000, 10000), at(-5, 989996), bound(-1010005, 989996), nowhere()},
		{"the beginning of the way", plain, at(-maxAt, -maxAt), bound(-maxAt-53, -maxAt), bound(-maxAt-47, -maxAt)},
		{"the beginning of the way, the longest train", train(1000000, 10000), at(-maxAt, -maxAt), bound(-maxAt-1010000, -maxAt), bound(-maxAt-990000, -maxAt)},
		{"the end of the way", plain, at(maxAt, maxAt), bound(maxAt-53, maxAt), bound(maxAt-47, maxAt)},
		{"all of the way", plain, at(-maxAt, maxAt), bound(-maxAt-53, maxAt), nowhere()},
		{"it just begins at -MaxAt", plain, at(-maxAt+53, -maxAt+60), bound(-maxAt, -maxAt+60), bound(-maxAt+13, -maxAt+53)},

		{"wheels and marks do not matter", impl.Rules{Slip: 500, Jolt: 1000, Mark: 10000, Long: 50, Loose: 3}, at(200, 220), bound(147, 220), bound(173, 200)},
		{"what is told beside the bound does not matter", plain, known(200, 220, most, 1, most), bound(147, 220), bound(173, 200)},
	} {
		if got := impl.Holds(c.r, c.s); got != c.holds {
			t.Errorf("%s: Holds %v, not %v", c.name, got, c.holds)
		}
		if got := impl.Surely(c.r, c.s); got != c.surely {
			t.Errorf("%s: Surely %v, not %v", c.name, got, c.surely)
		}
	}
}

// eachTrain goes through every train that may be: its front anywhere in the bound, its length wrong by no more than it may be, and not below 0.
func eachTrain(r impl.Rules, b impl.Bound, do func(rear, front int)) {
	for front := b.Low; front <= b.High; front++ {
		for long := max(r.Long-r.Loose, 0); long <= r.Long+r.Loose; long++ {
			do(front-long, front)
		}
	}
}

func eachSmallBody(do func(r impl.Rules, b impl.Bound)) {
	for long := 1; long < 8; long++ {
		for loose := range 9 {
			for low := -4; low < 3; low++ {
				for high := low; high < low+12; high++ {
					do(train(long, loose), bound(low, high))
				}
			}
		}
	}
}

// TestBodyOfEveryTrain asks every train that may be where it is: somewhere in Holds, all over Surely, past what Past says, and with as much room as Room says.
func TestBodyOfEveryTrain(t *testing.T) {
	eachSmallBody(func(r impl.Rules, b impl.Bound) {
		s := at(b.Low, b.High)
		holds, surely := impl.Holds(r, s), impl.Surely(r, s)
		for x := -40; x < 40; x++ {
			some, all, past, yet, room := false, true, true, true, math.MaxInt
			eachTrain(r, b, func(rear, front int) {
				has := rear <= x && x <= front
				some, all = some || has, all && has
				past, yet = past && rear > x, yet && front < x
				room = min(room, max(x-front, -1))
			})
			if in := holds.Low <= x && x <= holds.High; in != some {
				t.Fatalf("%+v, %v: Holds %v, at %d %v", r, b, holds, x, some)
			}
			if in := surely.Low <= x && x <= surely.High; in != all {
				t.Fatalf("%+v, %v: Surely %v, at %d %v", r, b, surely, x, all)
			}
			if got := impl.Past(r, s, x); (got == 1) != past || (got == -1) != yet || got < -1 || got > 1 {
				t.Fatalf("%+v, %v: Past %d is %d", r, b, x, got)
			}
			if got := impl.Room(r, s, x); got != room {
				t.Fatalf("%+v, %v: Room %d is %d, not %d", r, b, x, got, room)
			}
		}
	})
}

func TestHoldsAndSurelyWrong(t *testing.T) {
	refused := func(r impl.Rules, s impl.State) {
		t.Helper()
		if holds, surely := impl.Holds(r, s), impl.Surely(r, s); holds != nowhere() || surely != nowhere() {
			t.Errorf("%+v, %+v: Holds %v, Surely %v", r, s, holds, surely)
		}
	}
	for _, r := range wrongRules() {
		refused(r, at(200, 220))
		refused(r, at(0, 0))
		refused(r, impl.State{})
	}
	for _, s := range wrongPlaces() {
		refused(plain, s)
		refused(train(1000000, 10000), s)
	}
}

// TestBodyAsksForItsPlaceAlone: the document asks here whether the place is known and the bound right, not for all of the state.
func TestBodyAsksForItsPlaceAlone(t *testing.T) {
	for _, s := range oddNumbers(200, 220) {
		if impl.Holds(plain, s) != bound(147, 220) || impl.Surely(plain, s) != bound(173, 200) {
			t.Errorf("%+v: Holds %v, Surely %v", s, impl.Holds(plain, s), impl.Surely(plain, s))
		}
		if impl.Past(plain, s, 146) != 1 || impl.Room(plain, s, 221) != 1 || impl.Next(twoMarks(), s) != 1 {
			t.Errorf("%+v: Past %d, Room %d, Next %d", s, impl.Past(plain, s, 146), impl.Room(plain, s, 221), impl.Next(twoMarks(), s))
		}
	}
}

func TestPastAndRoomCases(t *testing.T) {
	long := train(1000000, 10000)
	for _, c := range []struct {
		name       string
		r          impl.Rules
		s          impl.State
		at         int
		past, room int
	}{
		{"far behind", plain, at(200, 220), 0, 1, -1},
		{"one below Holds' Low", plain, at(200, 220), 146, 1, -1},
		{"at Holds' Low", plain, at(200, 220), 147, 0, -1},
		{"one above Holds' Low", plain, at(200, 220), 148, 0, -1},
		{"in the bound", plain, at(200, 220), 210, 0, -1},
		{"one below the bound's High", plain, at(200, 220), 219, 0, -1},
		{"at the bound's High", plain, at(200, 220), 220, 0, 0},
		{"one above the bound's High", plain, at(200, 220), 221, -1, 1},
		{"far ahead", plain, at(200, 220), 1000, -1, 780},

		{"one place, one below", plain, at(0, 0), -1, 0, -1},
		{"one place, at it", plain, at(0, 0), 0, 0, 0},
		{"one place, one above", plain, at(0, 0), 1, -1, 1},
		{"below 0, one below Holds' Low", plain, at(-220, -200), -274, 1, -1},
		{"below 0, at Holds' Low", plain, at(-220, -200), -273, 0, -1},
		{"below 0, at the bound's High", plain, at(-220, -200), -200, 0, 0},
		{"below 0, one above", plain, at(-220, -200), -199, -1, 1},
		{"a train that may be shorter than nothing, one below", train(6, 7), at(200, 200), 186, 1, -1},
		{"a train that may be shorter than nothing, at its Low", train(6, 7), at(200, 200), 187, 0, -1},
		{"surely nowhere, one below Holds' Low", plain, at(200, 5000), 146, 1, -1},
		{"surely nowhere, at the bound's High", plain, at(200, 5000), 5000, 0, 0},
		{"surely nowhere, one above", plain, at(200, 5000), 5001, -1, 1},

		{"-MaxAt is behind", plain, at(200, 220), -maxAt, 1, -1},
		{"MaxAt is ahead", plain, at(200, 220), maxAt, -1, maxAt - 220},
		{"all of the way, its beginning", plain, at(-maxAt, maxAt), -maxAt, 0, -1},
		{"all of the way, its end", plain, at(-maxAt, maxAt), maxAt, 0, 0},
		{"all of the way, one below its end", plain, at(-maxAt, maxAt), maxAt - 1, 0, -1},
		{"the beginning of the way, at it", plain, at(-maxAt, -maxAt), -maxAt, 0, 0},
		{"the beginning of the way, one above", plain, at(-maxAt, -maxAt), -maxAt + 1, -1, 1},
		{"the beginning of the way, its end", plain, at(-maxAt, -maxAt), maxAt, -1, 2 * maxAt},
		{"the end of the way, its beginning", plain, at(maxAt, maxAt), -maxAt, 1, -1},
		{"the end of the way, at it", plain, at(maxAt, maxAt), maxAt, 0, 0},
		{"the end of the way, one below", plain, at(maxAt, maxAt), maxAt - 1, 0, -1},
		{"Holds begins at -MaxAt", plain, at(-maxAt+53, 0), -maxAt, 0, -1},
		{"Holds begins one above -MaxAt", plain, at(-maxAt+54, 0), -maxAt, 1, -1},
		{"the longest train, one below", long, at(0, 5), -1010001, 1, -1},
		{"the longest train, at its Low", long, at(0, 5), -1010000, 0, -1},
		{"what is told beside the bound does not matter", plain, known(200, 220, most, 1, most), 221, -1, 1},
	} {
		if got := impl.Past(c.r, c.s, c.at); got != c.past {
			t.Errorf("%s: Past %d, not %d", c.name, got, c.past)
		}
		if got := impl.Room(c.r, c.s, c.at); got != c.room {
			t.Errorf("%s: Room %d, not %d", c.name, got, c.room)
		}
	}
}

func TestPastAndRoomWrong(t *testing.T) {
	refused := func(r impl.Rules, s impl.State, x int) {
		t.Helper()
		if past, room := impl.Past(r, s, x), impl.Room(r, s, x); past != 0 || room != -1 {
			t.Errorf("%+v, %+v, %d: Past %d, Room %d", r, s, x, past, room)
		}
	}
	// Behind, within and ahead of what would be held; and around nowhere's own 1 and 0.
	places := []int{-maxAt, -1, 0, 1, 2, 210, 1000, maxAt}
	for _, x := range append(places, wrongAts()...) {
		for _, r := range wrongRules() {
			refused(r, at(200, 220), x)
		}
		for _, s := range wrongPlaces() {
			refused(plain, s, x)
		}
	}
	for _, x := range wrongAts() {
		for _, s := range []impl.State{at(200, 220), at(-maxAt, -maxAt), at(maxAt, maxAt), at(-maxAt, maxAt)} {
			refused(plain, s, x)
		}
	}
}

func TestNextCases(t *testing.T) {
	one := []impl.Mark{{Name: 7, At: 200}}
	ends := []impl.Mark{{Name: 7, At: 0}, {Name: 9, At: maxAt}}
	for _, c := range []struct {
		name  string
		marks []impl.Mark
		s     impl.State
		want  int
	}{
		{"ahead of all", twoMarks(), at(100, 110), 0},
		{"a mark one above the bound's Low", twoMarks(), at(199, 220), 0},
		{"a mark at the bound's Low", twoMarks(), at(200, 220), 1},
		{"a mark one below the bound's Low", twoMarks(), at(201, 220), 1},
		{"the last one above", twoMarks(), at(499, 499), 1},
		{"the last at the bound's Low", twoMarks(), at(500, 500), -1},
		{"the last one below", twoMarks(), at(501, 501), -1},
		{"the bound's High does not matter", twoMarks(), at(199, 6000), 0},
		{"nor where it is in the bound", twoMarks(), at(-maxAt, maxAt), 0},
		{"nor which mark was the last", twoMarks(), known(100, 110, 5, 1, 3), 0},
		{"far beyond", twoMarks(), at(6000, 6000), -1},
		{"no marks", nil, at(0, 0), -1},
		{"no marks, an empty list", []impl.Mark{}, at(-5, 5), -1},
		{"one mark, one above", one, at(199, 300), 0},
		{"one mark, at it", one, at(200, 300), -1},
		{"one mark, one below", one, at(201, 300), -1},
		{"the beginning of the way", ends, at(-maxAt, -maxAt), 0},
		{"one below 0", ends, at(-1, 5), 0},
		{"at 0", ends, at(0, 5), 1},
		{"one below MaxAt", ends, at(maxAt-1, maxAt), 1},
		{"at MaxAt", ends, at(maxAt, maxAt), -1},
	} {
		if got := impl.Next(c.marks, c.s); got != c.want {
			t.Errorf("%s: %d, not %d", c.name, got, c.want)
		}
	}
}

// TestNextAsSearched goes through the marks one by one, of every number of marks.
func TestNextAsSearched(t *testing.T) {
	for n := range 101 {
		marks := manyMarks(n)
		for low := -2; low < 10*n+3; low++ {
			want := slices.IndexFunc(marks, func(m impl.Mark) bool { return m.At > low })
			if got := impl.Next(marks, at(low, low+7)); got != want {
				t.Fatalf("%d marks, from %d on: %d, not %d", n, low, got, want)
			}
		}
	}
}

func TestNextWrong(t *testing.T) {
	for _, m := range wrongMarks() {
		for _, s := range []impl.State{at(-5, 5), at(-maxAt, maxAt), at(maxAt, maxAt), at(3, 700)} {
			if got := impl.Next(m, s); got != -1 {
				t.Errorf("marks %v, %+v: %d", m, s, got)
			}
		}
	}
	for _, s := range wrongPlaces() {
		for _, m := range [][]impl.Mark{nil, twoMarks(), manyMarks(100)} {
			if got := impl.Next(m, s); got != -1 {
				t.Errorf("%+v, %d marks: %d", s, len(m), got)
			}
		}
	}
}

func TestWideCases(t *testing.T) {
	for _, c := range []struct {
		name string
		r    impl.Rules
		far  int
		want int
	}{
		{"slip, jolt and mark", plain, 100, 10 + 113 - 90},
		{"nothing counted", plain, 0, 10 + 2},
		{"most counted", plain, 100000, 10 + 111113 - 90908},
		{"nothing errs", bare(0, 0, 0), 50, 0},
		{"nothing errs, nothing counted", bare(0, 0, 0), 0, 0},
		{"nothing errs, most counted", bare(0, 0, 0), 100000, 0},
		{"mark alone", bare(0, 0, 7), 100, 14},
		{"most mark", bare(0, 0, 10000), 100, 20000},
		{"jolt alone", bare(0, 3, 0), 100, 6},
		{"jolt as great as what is counted", bare(0, 7, 0), 7, 14},
		{"jolt greater than what is counted", bare(0, 7, 0), 3, 10},
		{"most jolt, nothing counted", bare(0, 1000, 0), 0, 1000},
		{"slip alone, rounded at both ends", bare(100, 0, 0), 10, 11 - 10},
		{"slip alone, no rounding below", bare(100, 0, 0), 11, 12 - 10},
		{"slip alone, no rounding above", bare(100, 0, 0), 9, 10 - 9},
		{"most slip, one counted", bare(500, 0, 0), 1, 2 - 1},
		{"all at the most", impl.Rules{Slip: 500, Jolt: 1000, Mark: 10000, Long: 1000000, Loose: 10000}, 100000, 20000 + 202000 - 66000},
		{"all at the most, nothing counted", impl.Rules{Slip: 500, Jolt: 1000, Mark: 10000, Long: 1000000, Loose: 10000}, 0, 20000 + 2000},
		{"the train does not matter", impl.Rules{Slip: 100, Jolt: 2, Mark: 5, Long: 1, Loose: 10000}, 100, 10 + 113 - 90},
	} {
		// Which marks they are does not matter: it is told of any of them.
		for _, m := range [][]impl.Mark{nil, {}, twoMarks(), manyMarks(1), manyMarks(100), {{Name: 1, At: maxAt}}} {
			if got := impl.Wide(c.r, m, c.far); got != c.want {
				t.Errorf("%s, %d marks: %d, not %d", c.name, len(m), got, c.want)
			}
		}
	}
}

// TestWideAsSearched: by the document's own sentence, and as wide as the bound of a run is (P7).
func TestWideAsSearched(t *testing.T) {
	marks := []impl.Mark{{Name: 3, At: 20000}, {Name: 4, At: 50000000}}
	for _, slip := range []int{0, 1, 7, 100, 333, 499, 500} {
		for _, jolt := range []int{0, 1, 9, 1000} {
			for _, far := range []int{0, 1, 2, 3, 9, 10, 11, 64, 999, 1000, 1001, 99999, 100000} {
				for _, mark := range []int{0, 5, 10000} {
					r := bare(slip, jolt, mark)
					least, farthest := searched(r, far)
					got := impl.Wide(r, marks, far)
					if got != 2*mark+farthest-least {
						t.Errorf("%+v counted %d: %d, but the train came %d to %d", r, far, got, least, farthest)
					}
					if b := lastOf(t, r, marks, bound(0, 0), lose(), read(4), wheel(far)).Bound; got != wide(b) {
						t.Errorf("%+v counted %d: %d, but the bound is %v", r, far, got, b)
					}
				}
			}
		}
	}
}

func TestWideWrong(t *testing.T) {
	refused := func(what any, r impl.Rules, m []impl.Mark, far int) {
		t.Helper()
		if got := impl.Wide(r, m, far); got != -1 {
			t.Errorf("%+v, far %d: %d", what, far, got)
		}
	}
	fars := []int{0, 5, 100000}
	wrong := []int{-1, 100001, -1000, 1000000, math.MinInt, math.MinInt + 1, math.MaxInt, math.MaxInt - 1}
	for _, far := range append(fars, wrong...) {
		for _, r := range wrongRules() {
			refused(r, r, twoMarks(), far)
			refused(r, r, nil, far)
		}
		for _, m := range wrongMarks() {
			refused(m, plain, m, far)
		}
	}
	for _, far := range wrong {
		refused("far", plain, twoMarks(), far)
		refused("far", plain, nil, far)
		refused("far", bare(500, 1000, 10000), manyMarks(100), far)
	}
}

func TestNextAndWideWriteNothing(t *testing.T) {
	// Room behind the list, that an append would write into.
	room := append(manyMarks(50), impl.Mark{Name: -1, At: -1}, impl.Mark{Name: -2, At: -2})
	was := slices.Clone(room)
	for n := range len(room) + 1 {
		marks := room[:n]
		for low := -1; low < 520; low += 3 {
			s := at(low, low+4)
			if once, again := impl.Next(marks, s), impl.Next(marks, s); once != again {
				t.Errorf("%d marks, from %d on: Next %d, then %d", n, low, once, again)
			}
		}
		for _, far := range []int{-1, 0, 100, 100000, 100001} {
			if once, again := impl.Wide(plain, marks, far), impl.Wide(plain, marks, far); once != again {
				t.Errorf("%d marks, far %d: Wide %d, then %d", n, far, once, again)
			}
		}
		if !slices.Equal(room, was) {
			t.Fatalf("an argument was written into: %v", room)
		}
	}
}

func TestBodySameAnswer(t *testing.T) {
	for _, s := range append(wrongPlaces(), at(200, 220), at(-maxAt, maxAt), at(0, 0)) {
		holds, surely := impl.Holds(plain, s), impl.Surely(plain, s)
		if impl.Holds(plain, s) != holds || impl.Surely(plain, s) != surely {
			t.Errorf("%+v: Holds was %v, Surely %v", s, holds, surely)
		}
		for _, x := range append(wrongAts(), -maxAt, 0, 147, 220, maxAt) {
			past, room := impl.Past(plain, s, x), impl.Room(plain, s, x)
			if impl.Past(plain, s, x) != past || impl.Room(plain, s, x) != room {
				t.Errorf("%+v, %d: Past was %d, Room %d", s, x, past, room)
			}
		}
	}
}
