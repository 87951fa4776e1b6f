package tests

import (
	"fmt"
	"math"
	"slices"
	"strings"
	"testing"

	"loop.example/milepost/impl"
)

func tick(far, counted int) impl.True { return impl.True{Far: far, Counted: counted} }

func exact(far int) impl.True { return tick(far, far) }

// wrongTicks differ by no more than wheels may err, where they can: their numbers alone are out of range.
func wrongTicks() []impl.True {
	out := []impl.True{
		tick(-1, 0), tick(0, -1), tick(-1, -1), tick(100001, 100000), tick(100000, 100001), tick(100001, 100001),
		tick(-1, 5), tick(5, -1), tick(5, 100001), tick(100001, 5),
	}
	for _, n := range []int{math.MinInt, math.MinInt + 1, math.MaxInt - 1, math.MaxInt} {
		out = append(out, tick(n, n), tick(n, 0), tick(0, n), tick(n, 100000), tick(100000, n), tick(n, -n), tick(-n, n))
	}
	return out
}

func TestFairCases(t *testing.T) {
	for _, c := range []struct {
		name  string
		r     impl.Rules
		ticks []impl.True
		want  bool
	}{
		{"no ticks", plain, nil, true},
		{"no ticks, an empty list", plain, []impl.True{}, true},
		{"just as it came", plain, []impl.True{exact(100)}, true},
		{"nothing happens", plain, []impl.True{exact(0)}, true},
		{"several", plain, []impl.True{exact(100), tick(90, 100), exact(0), tick(0, 2), tick(100, 88)}, true},

		{"it may just count so much", plain, []impl.True{tick(100, 112)}, true},
		{"one more", plain, []impl.True{tick(100, 113)}, false},
		{"it may just count so little", plain, []impl.True{tick(100, 88)}, true},
		{"one less", plain, []impl.True{tick(100, 87)}, false},
		{"it came just far enough", plain, []impl.True{tick(90, 100)}, true},
		{"it came one too little", plain, []impl.True{tick(89, 100)}, false},
		{"it came just not too far", plain, []impl.True{tick(113, 100)}, true},
		{"it came one too far", plain, []impl.True{tick(114, 100)}, false},
		{"a part of one is not enough", bare(99, 0, 0), []impl.True{tick(10, 11)}, false},
		{"just a whole one", bare(100, 0, 0), []impl.True{tick(10, 11)}, true},
		{"a part of one below", bare(99, 0, 0), []impl.True{tick(10, 9)}, false},
		{"just a whole one below", bare(100, 0, 0), []impl.True{tick(10, 9)}, true},
		{"slip is of how far it came, not of what was counted", bare(100, 0, 0), []impl.True{tick(9, 10)}, false},

		{"exact wheels", bare(0, 0, 0), []impl.True{exact(100000), exact(0), exact(1)}, true},
		{"exact wheels, one more", bare(0, 0, 0), []impl.True{tick(7, 8)}, false},
		{"exact wheels, one less", bare(0, 0, 0), []impl.True{tick(7, 6)}, false},
		{"it stands, jolt alone", bare(500, 3, 0), []impl.True{tick(0, 3)}, true},
		{"it stands, one more than jolt", bare(500, 3, 0), []impl.True{tick(0, 4)}, false},
		{"it stands and counts, no jolt", bare(500, 0, 0), []impl.True{tick(0, 1)}, false},
		{"nothing counted, jolt alone", bare(0, 3, 0), []impl.True{tick(3, 0)}, true},
		{"nothing counted, one more than jolt", bare(0, 3, 0), []impl.True{tick(4, 0)}, false},
		{"most jolt", bare(0, 1000, 0), []impl.True{tick(0, 1000), tick(1000, 0), tick(5000, 6000), tick(5000, 4000)}, true},
		{"most jolt, one more", bare(0, 1000, 0), []impl.True{tick(0, 1001)}, false},
		{"most jolt, one farther", bare(0, 1000, 0), []impl.True{tick(1001, 0)}, false},

		{"both at the most", bare(0, 0, 0), []impl.True{exact(100000)}, true},
		{"farthest, least counted", bare(500, 0, 0), []impl.True{tick(100000, 50000)}, true},
		{"farthest, one too little counted", bare(500, 0, 0), []impl.True{tick(100000, 49999)}, false},
		{"farthest, least counted with jolt", bare(500, 1000, 0), []impl.True{tick(100000, 49000)}, true},
		{"farthest, one too little counted with jolt", bare(500, 1000, 0), []impl.True{tick(100000, 48999)}, false},
		{"most counted, least far", bare(500, 0, 0), []impl.True{tick(66667, 100000)}, true},
		{"most counted, one too little", bare(500, 0, 0), []impl.True{tick(66666, 100000)}, false},
		{"farthest, nothing counted", bare(500, 1000, 0), []impl.True{tick(100000, 0)}, false},
		{"nothing, most counted", bare(500, 1000, 0), []impl.True{tick(0, 100000)}, false},

		{"marks and the train do not matter", impl.Rules{Slip: 100, Jolt: 2, Mark: 10000, Long: 1000000, Loose: 10000}, []impl.True{tick(100, 113)}, false},
		{"what one errs too much another does not mend", plain, []impl.True{tick(100, 113), tick(100, 87)}, false},
	} {
		if got := impl.Fair(c.r, c.ticks); got != c.want {
			t.Errorf("%s: %v", c.name, got)
		}
	}
}

// TestFairAsSaid asks the document's own sentence of every tick of small numbers, and of some at the ends of their range.
func TestFairAsSaid(t *testing.T) {
	check := func(r impl.Rules, far, counted int) {
		t.Helper()
		if got := impl.Fair(r, []impl.True{tick(far, counted)}); got != mayCount(r, far, counted) {
			t.Errorf("%+v, came %d, counted %d: %v", r, far, counted, got)
		}
	}
	for _, slip := range []int{0, 1, 7, 99, 100, 101, 333, 499, 500} {
		for _, jolt := range []int{0, 1, 2, 9} {
			for far := range 60 {
				for counted := range 90 {
					check(slipping(slip, jolt), far, counted)
				}
			}
		}
		for _, jolt := range []int{0, 1, 999, 1000} {
			r := slipping(slip, jolt)
			for _, far := range []int{0, 1, 1000, 50000, 66666, 66667, 99999, 100000} {
				off := (slip*far + 1000*jolt) / 1000
				for _, counted := range []int{far - off - 1, far - off, far - off + 1, far + off - 1, far + off, far + off + 1} {
					if counted >= 0 && counted <= 100000 {
						check(r, far, counted)
					}
				}
			}
		}
	}
}

// TestFairOfEachTick: one that errs too much is found wherever it stands.
func TestFairOfEachTick(t *testing.T) {
	good := []impl.True{exact(5), tick(90, 100), exact(0), exact(100000)}
	bad := append(wrongTicks(), tick(89, 100), tick(0, 3), tick(3, 0), tick(100000, 0))
	for _, b := range bad {
		for i := range len(good) + 1 {
			if impl.Fair(plain, slices.Insert(slices.Clone(good), i, b)) {
				t.Errorf("%+v is fair as number %d", b, i)
			}
		}
	}
}

func TestFairMostTicks(t *testing.T) {
	// All of it is farther than the way is long, and that does not matter.
	for _, each := range []impl.True{exact(0), exact(100000), tick(90, 100)} {
		ticks := slices.Repeat([]impl.True{each}, 2001)
		for _, n := range []int{1, 1000, 1001, 1999, 2000} {
			if !impl.Fair(plain, ticks[:n]) {
				t.Errorf("%d ticks of %+v are refused", n, each)
			}
		}
		if impl.Fair(plain, ticks) {
			t.Errorf("2001 ticks of %+v are accepted", each)
		}
	}
	last := append(slices.Repeat([]impl.True{exact(100000)}, 1999), tick(89, 100))
	if impl.Fair(plain, last) {
		t.Error("the last of 2000 errs too much")
	}
}

func TestFairWrong(t *testing.T) {
	for _, r := range wrongRules() {
		for _, ticks := range [][]impl.True{nil, {}, {exact(0)}, {exact(100), exact(5)}} {
			if impl.Fair(r, ticks) {
				t.Errorf("rules %+v, ticks %v: fair", r, ticks)
			}
		}
	}
	for _, w := range wrongTicks() {
		for _, r := range []impl.Rules{plain, bare(0, 0, 0), bare(0, 1000, 0), bare(500, 1000, 10000)} {
			if impl.Fair(r, []impl.True{w}) {
				t.Errorf("rules %+v, tick %+v: fair", r, w)
			}
		}
	}
}

func TestFeltCases(t *testing.T) {
	near := []impl.Mark{{Name: 30, At: 100}, {Name: 10, At: 102}, {Name: 20, At: 110}, {Name: 5, At: 111}}
	ends := []impl.Mark{{Name: most, At: 0}, {Name: 1, At: maxAt}}
	for _, c := range []struct {
		name  string
		r     impl.Rules
		marks []impl.Mark
		at    int
		ticks []impl.True
		reads []int
		want  []impl.Event
	}{
		{"no ticks", plain, twoMarks(), 200, nil, nil, nil},
		{"no ticks, empty lists", plain, twoMarks(), 200, []impl.True{}, []int{}, nil},
		{"one tick, far from any mark", plain, twoMarks(), 0, []impl.True{tick(10, 11)}, []int{1}, []impl.Event{wheel(11)}},
		{"one tick, no marks", plain, nil, 0, []impl.True{tick(10, 11)}, []int{1}, []impl.Event{wheel(11)}},
		{"one tick to a mark", plain, twoMarks(), 100, []impl.True{tick(100, 103)}, []int{1}, []impl.Event{wheel(103), read(7)}},
		{"what is counted is told, not how far it came", plain, twoMarks(), 100, []impl.True{tick(100, 0)}, []int{1}, []impl.Event{wheel(0), read(7)}},
		{"where it is now is read, not where it was", plain, twoMarks(), 200, []impl.True{tick(6, 6)}, []int{1}, []impl.Event{wheel(6)}},
		{"it stands at a mark", plain, twoMarks(), 200, []impl.True{exact(0), exact(0)}, []int{1, 1}, []impl.Event{wheel(0), read(7), wheel(0), read(7)}},
		{"it goes over a mark between two ticks", plain, twoMarks(), 190, []impl.True{exact(20)}, []int{1}, []impl.Event{wheel(20)}},
		{"what it came adds up", plain, twoMarks(), 100, []impl.True{exact(60), tick(30, 33), exact(10)}, []int{1, 1, 1}, []impl.Event{wheel(60), wheel(33), wheel(10), read(7)}},
		{"two marks, one after the other", plain, twoMarks(), 150, []impl.True{exact(50), exact(300)}, []int{1, 1}, []impl.Event{wheel(50), read(7), wheel(300), read(9)}},

		{"reads of 0", plain, twoMarks(), 200, []impl.True{exact(0)}, []int{0}, []impl.Event{wheel(0)}},
		{"reads of 2", plain, twoMarks(), 200, []impl.True{exact(0)}, []int{2}, []impl.Event{wheel(0)}},
		{"reads of -1", plain, twoMarks(), 200, []impl.True{exact(0)}, []int{-1}, []impl.Event{wheel(0)}},
		{"reads at the ends of int", plain, twoMarks(), 200, []impl.True{exact(0), exact(0)}, []int{math.MinInt, math.MaxInt}, []impl.Event{wheel(0), wheel(0)}},
		{"each tick has its own read", plain, twoMarks(), 198, []impl.True{exact(1), exact(1), exact(1), exact(1)}, []int{0, 1, 3, 1}, []impl.Event{wheel(1), wheel(1), read(7), wheel(1), wheel(1), read(7)}},

		{"just Mark below", plain, twoMarks(), 190, []impl.True{exact(5)}, []int{1}, []impl.Event{wheel(5), read(7)}},
		{"one farther below", plain, twoMarks(), 189, []impl.True{exact(5)}, []int{1}, []impl.Event{wheel(5)}},
		{"just Mark above", plain, twoMarks(), 200, []impl.True{exact(5)}, []int{1}, []impl.Event{wheel(5), read(7)}},
		{"one farther above", plain, twoMarks(), 201, []impl.True{exact(5)}, []int{1}, []impl.Event{wheel(5)}},
		{"exact marks, at it", bare(0, 0, 0), twoMarks(), 195, []impl.True{exact(5)}, []int{1}, []impl.Event{wheel(5), read(7)}},
		{"exact marks, one below", bare(0, 0, 0), twoMarks(), 194, []impl.True{exact(5)}, []int{1}, []impl.Event{wheel(5)}},
		{"exact marks, one above", bare(0, 0, 0), twoMarks(), 196, []impl.True{exact(5)}, []int{1}, []impl.Event{wheel(5)}},
		{"most Mark, just so far", bare(0, 0, 10000), []impl.Mark{{Name: 3, At: 20000}}, 10000, []impl.True{exact(0), exact(20000), exact(1)}, []int{1, 1, 1}, []impl.Event{wheel(0), read(3), wheel(20000), read(3), wheel(1)}},
		{"most Mark, one farther", bare(0, 0, 10000), []impl.Mark{{Name: 3, At: 20000}}, 9999, []impl.True{exact(0), exact(1)}, []int{1, 1}, []impl.Event{wheel(0), wheel(1), read(3)}},

		{"several marks in order, on both sides", plain, near, 100, []impl.True{exact(6)}, []int{1}, []impl.Event{wheel(6), read(10), read(20), read(5)}},
		{"several marks in order, one of them just Mark below", plain, near, 100, []impl.True{exact(5)}, []int{1}, []impl.Event{wheel(5), read(30), read(10), read(20)}},
		{"several marks, not read", plain, near, 100, []impl.True{exact(5)}, []int{0}, []impl.Event{wheel(5)}},
		{"several marks, read twice", plain, near, 100, []impl.True{exact(1), exact(2)}, []int{1, 1}, []impl.Event{wheel(1), read(30), read(10), wheel(2), read(30), read(10)}},
		{"all marks", bare(0, 0, 11), near, 100, []impl.True{exact(0)}, []int{1}, []impl.Event{wheel(0), read(30), read(10), read(20), read(5)}},
		{"all marks but the last", bare(0, 0, 10), near, 100, []impl.True{exact(0)}, []int{1}, []impl.Event{wheel(0), read(30), read(10), read(20)}},

		{"place 0", plain, ends, 0, []impl.True{exact(0), exact(5), exact(1)}, []int{1, 1, 1}, []impl.Event{wheel(0), read(most), wheel(5), read(most), wheel(1)}},
		{"place MaxAt", plain, ends, maxAt, []impl.True{exact(0)}, []int{1}, []impl.Event{wheel(0), read(1)}},
		{"place MaxAt, wheels that slip", plain, ends, maxAt, []impl.True{tick(0, 2)}, []int{1}, []impl.Event{wheel(2), read(1)}},
		{"just to MaxAt", plain, ends, maxAt - 7, []impl.True{exact(1), exact(1), exact(5)}, []int{1, 1, 1}, []impl.Event{wheel(1), wheel(1), read(1), wheel(5), read(1)}},
		{"one beyond MaxAt", plain, ends, maxAt - 7, []impl.True{exact(1), exact(1), exact(6)}, []int{1, 1, 1}, nil},
		{"one beyond MaxAt at once", plain, ends, maxAt, []impl.True{tick(1, 0)}, []int{0}, nil},
		{"one beyond MaxAt, not the last tick", plain, ends, maxAt - 1, []impl.True{exact(2), exact(0)}, []int{0, 0}, nil},
		{"far beyond MaxAt", plain, ends, maxAt, []impl.True{exact(100000), exact(100000)}, []int{0, 0}, nil},
		{"wheels that count beyond MaxAt do not matter", plain, nil, maxAt - 5, []impl.True{tick(5, 100000)}, []int{1}, []impl.Event{wheel(100000)}},

		{"numbers at 0 and at the most", plain, nil, 5, []impl.True{tick(0, 0), tick(100000, 100000), tick(0, 100000), tick(100000, 0)}, []int{1, 1, 1, 1}, []impl.Event{wheel(0), wheel(100000), wheel(100000), wheel(0)}},
		{"wheels that err too much are felt all the same", bare(0, 0, 5), twoMarks(), 100, []impl.True{tick(100, 7)}, []int{1}, []impl.Event{wheel(7), read(7)}},
		{"and so is one that errs too much at MaxAt", bare(0, 0, 5), ends, maxAt - 3, []impl.True{tick(3, 7)}, []int{1}, []impl.Event{wheel(7), read(1)}},
		{"one that errs too much and is beyond MaxAt", bare(0, 0, 5), ends, maxAt - 3, []impl.True{tick(4, 7)}, []int{1}, nil},
	} {
		if got := impl.Felt(c.r, c.marks, c.at, c.ticks, c.reads); !slices.Equal(got, c.want) {
			t.Errorf("%s: %v, not %v", c.name, got, c.want)
		}
	}
}

// TestFeltReadsEachMarkNear asks of every mark how far away it is, at every front.
func TestFeltReadsEachMarkNear(t *testing.T) {
	marks := manyMarks(100)
	for _, off := range []int{0, 1, 9, 10, 11, 25, 500, 990, 10000} {
		r := bare(0, 0, off)
		for front := range 1010 {
			want := []impl.Event{wheel(2)}
			for _, m := range marks {
				if away := max(front-m.At, m.At-front); away <= off {
					want = append(want, read(m.Name))
				}
			}
			come := front % 4
			if got := impl.Felt(r, marks, front-come, []impl.True{tick(come, 2)}, []int{1}); !slices.Equal(got, want) {
				t.Fatalf("mark %d, front %d: %v, not %v", off, front, got, want)
			}
		}
	}
}

func TestFeltMostTicksAndEvents(t *testing.T) {
	stays := slices.Repeat([]impl.True{exact(0)}, 2001)
	never, always := make([]int, 2001), slices.Repeat([]int{1}, 2001)
	last := func(n int) []int { return append(make([]int, n-1), 1) }
	one := []impl.Mark{{Name: 3, At: 500}}
	wideMark := bare(0, 0, 10000)
	for _, c := range []struct {
		name   string
		marks  []impl.Mark
		ticks  int
		reads  []int
		events int
	}{
		{"2000 ticks", one, 2000, never[:2000], 2000},
		{"2001 ticks", one, 2001, never, 0},
		{"2001 ticks, no marks", nil, 2001, always, 0},
		{"2000 ticks, no marks to read", nil, 2000, always[:2000], 2000},
		{"2000 ticks and one mark", one, 2000, last(2000), 0},
		{"1999 ticks and one mark", one, 1999, last(1999), 2000},
		{"1999 ticks and two marks", manyMarks(2), 1999, last(1999), 0},
		{"1000 ticks, each with one mark", one, 1000, always[:1000], 2000},
		{"1001 ticks, each with one mark", one, 1001, always[:1001], 0},
		{"1001 ticks, all but the last two with one mark", one, 1001, append(slices.Repeat([]int{1}, 999), 0, 0), 2000},
		{"1001 ticks, all but the last with one mark", one, 1001, append(slices.Repeat([]int{1}, 1000), 0), 0},
		{"20 ticks, each with 99 marks", manyMarks(99), 20, always[:20], 2000},
		{"20 ticks, each with 100 marks", manyMarks(100), 20, always[:20], 0},
		{"19 ticks, each with 100 marks", manyMarks(100), 19, always[:19], 1919},
		{"all ticks, all marks", manyMarks(100), 2000, always[:2000], 0},
	} {
		got := impl.Felt(wideMark, c.marks, 500, stays[:c.ticks], c.reads)
		if len(got) != c.events {
			t.Errorf("%s: %d events", c.name, len(got))
		}
		for _, e := range got {
			if !impl.EventOk(e) {
				t.Errorf("%s: %v is no event", c.name, e)
			}
		}
	}
}

func TestFeltAllOfTheWay(t *testing.T) {
	ends := []impl.Mark{{Name: 7, At: 0}, {Name: 9, At: maxAt}}
	ticks, reads := slices.Repeat([]impl.True{exact(100000)}, 1001), slices.Repeat([]int{1}, 1001)
	got := impl.Felt(plain, ends, 0, ticks[:1000], reads[:1000])
	if want := append(slices.Repeat([]impl.Event{wheel(100000)}, 1000), read(9)); !slices.Equal(got, want) {
		t.Errorf("%d events", len(got))
	}
	if got := impl.Felt(plain, ends, 1, ticks[:1000], reads[:1000]); len(got) != 0 {
		t.Errorf("from 1 on: %d events", len(got))
	}
	if got := impl.Felt(plain, ends, 0, ticks, reads); len(got) != 0 {
		t.Errorf("one tick more: %d events", len(got))
	}
}

func TestFeltReadsAsManyAsTicks(t *testing.T) {
	ticks := []impl.True{exact(1), exact(2), exact(3), exact(4)}
	for n := range 5 {
		for reads := range 7 {
			for _, each := range []int{0, 1} {
				want := 0
				if n == reads {
					want = n
				}
				if got := impl.Felt(plain, twoMarks(), 0, ticks[:n], slices.Repeat([]int{each}, reads)); len(got) != want {
					t.Errorf("%d ticks, %d reads: %v", n, reads, got)
				}
			}
		}
	}
}

func TestFeltWrong(t *testing.T) {
	ticks := []impl.True{exact(5), tick(90, 100), exact(0)}
	refused := func(what any, r impl.Rules, m []impl.Mark, at int, ticks []impl.True) {
		t.Helper()
		for _, each := range []int{0, 1, 2} {
			if got := impl.Felt(r, m, at, ticks, slices.Repeat([]int{each}, len(ticks))); len(got) != 0 {
				t.Errorf("%+v: %v", what, got)
			}
		}
	}
	for _, r := range wrongRules() {
		refused(r, r, twoMarks(), 105, ticks)
		refused(r, r, nil, 105, ticks)
	}
	for _, m := range wrongMarks() {
		refused(m, plain, m, 105, ticks)
		refused(m, bare(0, 0, 10000), m, 105, ticks)
	}
	for _, at := range []int{-1, maxAt + 1, -105, -maxAt, 2 * maxAt, math.MinInt, math.MinInt + 1, math.MaxInt, math.MaxInt - 1} {
		refused(at, plain, twoMarks(), at, ticks)
		refused(at, plain, nil, at, []impl.True{exact(0)})
		refused(at, plain, twoMarks(), at, []impl.True{exact(100000), exact(100000)})
	}
	for _, w := range wrongTicks() {
		for i := range len(ticks) + 1 {
			refused(w, plain, twoMarks(), 105, slices.Insert(slices.Clone(ticks), i, w))
		}
		refused(w, plain, twoMarks(), 0, []impl.True{w})
		refused(w, plain, nil, maxAt, []impl.True{exact(0), w, exact(0)})
	}
}

func TestAnswerCases(t *testing.T) {
	for _, c := range []struct {
		name   string
		r      impl.Rules
		marks  []impl.Mark
		begin  impl.Bound
		events []impl.Event
		want   []string
	}{
		{"no events", plain, twoMarks(), bound(100, 110), nil, nil},
		{"no events, an empty list", plain, twoMarks(), bound(100, 110), []impl.Event{}, nil},
		{"wheels", plain, twoMarks(), bound(100, 110), []impl.Event{wheel(100)}, []string{"190 223 since 100 last -1 odd 0"}},
		{"each kind of event", plain, twoMarks(), bound(100, 110),
			[]impl.Event{stand(), wheel(100), read(7), wheel(10), read(8), read(9), lose(), wheel(10), read(1), stand(), read(9)},
			[]string{
				"100 110 since 0 last -1 odd 0",
				"190 223 since 100 last -1 odd 0",
				"195 205 since 0 last 0 odd 0",
				"203 218 since 10 last 0 odd 0",
				"203 218 since 10 last 0 odd 1",
				"203 505 since 0 last 1 odd 2",
				"lost since 0 last -1 odd 2",
				"lost since 10 last -1 odd 2",
				"lost since 10 last -1 odd 3",
				"lost since 10 last -1 odd 3",
				"495 505 since 0 last 1 odd 3",
			}},
		{"numbers below 0, 0 and above", bare(0, 0, 0), nil, bound(-7, 0), []impl.Event{stand(), wheel(0), wheel(7), wheel(7)},
			[]string{"-7 0 since 0 last -1 odd 0", "-7 0 since 0 last -1 odd 0", "0 7 since 7 last -1 odd 0", "7 14 since 14 last -1 odd 0"}},
		{"both ends below 0", bare(0, 0, 0), nil, bound(-12, -9), []impl.Event{stand()}, []string{"-12 -9 since 0 last -1 odd 0"}},
		{"all 0 is not lost", bare(0, 0, 0), nil, bound(0, 0), []impl.Event{stand(), lose()}, []string{"0 0 since 0 last -1 odd 0", "lost since 0 last -1 odd 0"}},
		{"all of the way", plain, nil, bound(-maxAt, maxAt), []impl.Event{stand()}, []string{"-100000000 100000000 since 0 last -1 odd 0"}},
		{"the beginning of the way", plain, nil, bound(-maxAt, -maxAt), []impl.Event{stand()}, []string{"-100000000 -100000000 since 0 last -1 odd 0"}},
		{"a mark's bound goes below 0", plain, []impl.Mark{{Name: 3, At: 0}}, bound(0, 0), []impl.Event{lose(), read(3)}, []string{"lost since 0 last -1 odd 0", "-5 5 since 0 last 0 odd 0"}},
		{"the last of 100 marks", plain, manyMarks(100), bound(0, 2000), []impl.Event{read(1)}, []string{"985 995 since 0 last 99 odd 0"}},
		{"most counted", bare(0, 0, 0), nil, bound(0, 0), []impl.Event{wheel(100000), wheel(100000)}, []string{"100000 100000 since 100000 last -1 odd 0", "200000 200000 since 200000 last -1 odd 0"}},
	} {
		want := ""
		for _, line := range c.want {
			want += line + "\n"
		}
		if got := impl.Answer(c.r, c.marks, c.begin, c.events); got != want {
			t.Errorf("%s: %q, not %q", c.name, got, want)
		}
	}
}

// told is the document's sentence on Answer.
func told(states []impl.State) string {
	out := ""
	for _, s := range states {
		place := "lost"
		if s.Known {
			place = fmt.Sprint(s.Bound.Low, " ", s.Bound.High)
		}
		out += fmt.Sprintf("%s since %d last %d odd %d\n", place, s.Since, s.Last, s.Odd)
	}
	return out
}

func TestAnswerTellsRun(t *testing.T) {
	for _, begin := range []impl.Bound{bound(100, 110), bound(-maxAt, maxAt), bound(maxAt, maxAt), bound(-7, 0)} {
		eachRun(3, func(events []impl.Event) {
			want := told(impl.Run(plain, twoMarks(), begin, events))
			if got := impl.Answer(plain, twoMarks(), begin, events); got != want {
				t.Fatalf("%v: %q, not %q", events, got, want)
			}
		})
	}
}

func TestAnswerMostEvents(t *testing.T) {
	events := slices.Repeat([]impl.Event{wheel(100000), read(8)}, 1001)
	got := impl.Answer(plain, twoMarks(), bound(-maxAt, -maxAt), events[:2000])
	if want := told(impl.Run(plain, twoMarks(), bound(-maxAt, -maxAt), events[:2000])); got != want || strings.Count(got, "\n") != 2000 {
		t.Errorf("2000 events: %d lines", strings.Count(got, "\n"))
	}
	if !strings.HasSuffix(got, " since 100000000 last -1 odd 1000\n") {
		t.Errorf("2000 events: they end with %q", got[len(got)-60:])
	}
	if got := impl.Answer(plain, twoMarks(), bound(-maxAt, -maxAt), events[:2001]); got != "" {
		t.Errorf("2001 events: %d lines", strings.Count(got, "\n"))
	}
}

func TestAnswerWrong(t *testing.T) {
	refused := func(what any, r impl.Rules, m []impl.Mark, b impl.Bound, e []impl.Event) {
		t.Helper()
		if got := impl.Answer(r, m, b, e); got != "" {
			t.Errorf("%+v: %q", what, got)
		}
	}
	b, events := bound(100, 110), []impl.Event{wheel(5), lose(), read(7), stand()}
	for _, r := range wrongRules() {
		refused(r, r, twoMarks(), b, events)
		refused(r, r, nil, b, events[3:])
	}
	for _, m := range wrongMarks() {
		refused(m, plain, m, b, events)
	}
	for _, w := range wrongBounds() {
		refused(w, plain, twoMarks(), w, events)
		refused(w, plain, twoMarks(), w, events[1:])
	}
	for _, e := range wrongEvents() {
		for i := range len(events) + 1 {
			refused(e, plain, twoMarks(), b, slices.Insert(slices.Clone(events), i, e))
		}
	}
}
