package tests

import (
	"testing"

	"loop.example/milepost/impl"
)

// bare is rules whose train does not matter.
func bare(slip, jolt, mark int) impl.Rules {
	return impl.Rules{Slip: slip, Jolt: jolt, Mark: mark, Long: 1}
}

// lastOf is what is believed behind all of the events.
func lastOf(t *testing.T, r impl.Rules, marks []impl.Mark, begin impl.Bound, events ...impl.Event) impl.State {
	t.Helper()
	states := impl.Run(r, marks, begin, events)
	if len(states) != len(events) {
		t.Fatalf("%+v, %v: %d states", r, events, len(states))
	}
	return states[len(states)-1]
}

// frontsAfter is every place where the front can be behind wheels that counted so much, when it was at one of these.
func frontsAfter(r impl.Rules, fronts map[int]int, counted int) map[int]int {
	out := map[int]int{}
	for front := range fronts {
		for far := range 2*(counted+r.Jolt) + 10 {
			if mayCount(r, far, counted) {
				out[front+far]++
			}
		}
	}
	return out
}

func frontsOf(b impl.Bound) map[int]int {
	out := map[int]int{}
	for front := b.Low; front <= b.High; front++ {
		out[front]++
	}
	return out
}

// checkNarrow: the front can be at either end of the bound, so that one less would be wrong, and nowhere beyond.
func checkNarrow(t *testing.T, what any, b impl.Bound, fronts map[int]int) {
	t.Helper()
	if fronts[b.Low] == 0 || fronts[b.High] == 0 {
		t.Errorf("%+v: %v is too wide", what, b)
	}
	for front := range fronts {
		if front < b.Low || front > b.High {
			t.Fatalf("%+v: %v is without %d", what, b, front)
		}
	}
}

// TestNarrowBehindWheels is P4.
func TestNarrowBehindWheels(t *testing.T) {
	begin := bound(-3, 4)
	for _, slip := range []int{0, 1, 50, 100, 333, 500} {
		for _, jolt := range []int{0, 1, 3} {
			r := bare(slip, jolt, 5)
			for _, counted := range [][]int{{0}, {1}, {2}, {9}, {10}, {11}, {37}, {100}, {0, 0}, {1, 1, 1}, {10, 11}, {3, 0, 17}} {
				fronts := frontsOf(begin)
				var events []impl.Event
				for _, n := range counted {
					fronts = frontsAfter(r, fronts, n)
					events = append(events, wheel(n))
				}
				checkNarrow(t, events, lastOf(t, r, twoMarks(), begin, events...).Bound, fronts)
			}
		}
	}
}

// TestNarrowBehindManyCounted is P4 of counts too great to go through every front.
func TestNarrowBehindManyCounted(t *testing.T) {
	for _, r := range []impl.Rules{bare(0, 0, 0), bare(1, 0, 0), bare(100, 2, 0), bare(499, 999, 0), bare(500, 1000, 0)} {
		for _, counted := range []int{999, 1000, 1001, 99999, 100000} {
			b := impl.Do(r, twoMarks(), known(-3, 4, 0, -1, 0), wheel(counted)).Bound
			least, far := b.Low+3, b.High-4
			if !mayCount(r, least, counted) || !mayCount(r, far, counted) || mayCount(r, least-1, counted) || mayCount(r, far+1, counted) {
				t.Errorf("%+v counted %d: came %d to %d", r, counted, least, far)
			}
		}
	}
}

// TestMarkLeavesWhatCanBe is P5: behind a mark that fits the bound has just the places that were in it and are near enough to the mark.
func TestMarkLeavesWhatCanBe(t *testing.T) {
	for mark := range 4 {
		for low := -2; low < 12; low++ {
			for high := low; high < 14; high++ {
				for at := range 16 {
					checkMark(t, bare(0, 0, mark), bound(low, high), at)
				}
			}
		}
	}
}

func checkMark(t *testing.T, r impl.Rules, b impl.Bound, at int) {
	t.Helper()
	marks := []impl.Mark{{Name: 3, At: at}}
	got := lastOf(t, r, marks, b, read(3))
	can := map[int]int{}
	for front := range frontsOf(b) {
		if max(front-at, at-front) <= r.Mark {
			can[front]++
		}
	}
	if len(can) > 0 {
		checkNarrow(t, marks, got.Bound, can)
	}
	if len(can) > 0 && (got.Odd != 0 || wide(got.Bound) > wide(b)) {
		t.Errorf("%v reads a mark at %d that fits: %+v", b, at, got)
	}
	if len(can) > 0 {
		return
	}
	// It is from one end of one of the two to one end of the other, and holds both.
	if got.Odd != 1 || got.Bound != bound(min(b.Low, at-r.Mark), max(b.High, at+r.Mark)) {
		t.Errorf("%v reads a mark at %d that does not fit: %+v", b, at, got)
	}
}

// TestTwoPieces is P6. Rounding takes at most one at either end, and nothing when there is nothing to round.
func TestTwoPieces(t *testing.T) {
	begin := bound(-3, 4)
	for _, slip := range []int{0, 1, 7, 100, 333, 499, 500} {
		takes := min(slip, 1)
		for _, jolt := range []int{0, 1, 5, 1000} {
			r := bare(slip, jolt, 5)
			for _, a := range []int{0, 1, 2, 5, 9, 10, 11, 64, 999, 50000} {
				for _, b := range []int{0, 1, 3, 6, 10, 19, 100, 1001, 50000} {
					one := lastOf(t, r, nil, begin, wheel(a+b))
					two := lastOf(t, r, nil, begin, wheel(a), wheel(b))
					if two.Bound.Low > one.Bound.Low+takes || two.Bound.High < one.Bound.High-takes {
						t.Errorf("%+v: %d and %d: %v, at once %v", r, a, b, two.Bound, one.Bound)
					}
					if two.Since != one.Since {
						t.Errorf("%d and %d: since %d, at once %d", a, b, two.Since, one.Since)
					}
				}
			}
		}
	}
}

func TestTwoPiecesCases(t *testing.T) {
	for _, c := range []struct {
		name     string
		r        impl.Rules
		a, b     int
		one, two impl.Bound
	}{
		{"exact", bare(0, 0, 0), 10, 1, bound(11, 11), bound(11, 11)},
		{"each piece has its jolt", bare(0, 2, 0), 10, 8, bound(16, 20), bound(14, 22)},
		{"a piece within its jolt", bare(0, 2, 0), 10, 1, bound(9, 13), bound(8, 15)},
		{"nothing to round", bare(500, 0, 0), 3, 3, bound(4, 12), bound(4, 12)},
		{"rounding takes one below", bare(100, 0, 0), 10, 1, bound(10, 12), bound(11, 12)},
		{"rounding takes one at both ends", bare(100, 0, 0), 5, 6, bound(10, 12), bound(11, 11)},
	} {
		one := lastOf(t, c.r, nil, bound(0, 0), wheel(c.a+c.b)).Bound
		two := lastOf(t, c.r, nil, bound(0, 0), wheel(c.a), wheel(c.b)).Bound
		if one != c.one || two != c.two {
			t.Errorf("%s: %v and %v, not %v and %v", c.name, one, two, c.one, c.two)
		}
	}
}

func wide(b impl.Bound) int { return b.High - b.Low }

// TestWideBehindMark is P7: twice Mark, and what the most and the least are apart that the train can have come since.
func TestWideBehindMark(t *testing.T) {
	marks := []impl.Mark{{Name: 3, At: 20000}, {Name: 4, At: 50000000}}
	for _, mark := range []int{0, 1, 5, 9999, 10000} {
		for _, slip := range []int{0, 1, 100, 500} {
			for _, jolt := range []int{0, 2, 1000} {
				for _, counted := range []int{0, 1, 10, 1000, 100000} {
					checkWide(t, bare(slip, jolt, mark), marks, counted)
				}
			}
		}
	}
}

func checkWide(t *testing.T, r impl.Rules, marks []impl.Mark, counted int) {
	t.Helper()
	least, far := searched(r, counted)
	for _, m := range marks {
		for _, before := range [][]impl.Event{{lose()}, {stand()}, {wheel(9)}, {lose(), wheel(9)}} {
			// The whole way holds every mark's own bound; so nothing but the mark tells how wide it is.
			events := append(before, read(m.Name), wheel(counted))
			states := impl.Run(r, marks, bound(-maxAt, maxAt), events)
			if len(states) != len(events) {
				t.Fatalf("%v: %d states", events, len(states))
			}
			behindMark, behindWheels := states[len(states)-2].Bound, states[len(states)-1].Bound
			if wide(behindMark) != 2*r.Mark || wide(behindWheels) != 2*r.Mark+far-least {
				t.Errorf("%+v, mark %v, counted %d: %v, then %v", r, m, counted, behindMark, behindWheels)
			}
		}
	}
}

// TestMarkThatFitsIsNoWiderThanTold: what was known ahead of the mark may make it narrower than that.
func TestMarkThatFitsIsNoWiderThanTold(t *testing.T) {
	for low := 150; low <= 205; low++ {
		for high := max(low, 195); high < 250; high++ {
			got := lastOf(t, plain, twoMarks(), bound(low, high), read(7)).Bound
			if wide(got) > 10 || wide(got) > high-low {
				t.Errorf("%d to %d: %v", low, high, got)
			}
		}
	}
}
