package tests

import (
	"math"
	"slices"
	"testing"

	"loop.example/milepost/impl"
)

const most = 1000000000

func twoMarks() []impl.Mark { return []impl.Mark{{Name: 7, At: 200}, {Name: 9, At: 500}} }

func event(op, n int) impl.Event { return impl.Event{Op: op, N: n} }

func wheel(n int) impl.Event { return event(1, n) }

func read(name int) impl.Event { return event(2, name) }

func stand() impl.Event { return event(3, 0) }

func lose() impl.Event { return event(4, 0) }

func known(low, high, since, last, odd int) impl.State {
	return impl.State{Known: true, Bound: bound(low, high), Since: since, Last: last, Odd: odd}
}

func unknown(since, odd int) impl.State { return impl.State{Since: since, Last: -1, Odd: odd} }

// manyMarks are right, however many: only their number can be wrong.
func manyMarks(n int) []impl.Mark {
	var out []impl.Mark
	for i := range n {
		out = append(out, impl.Mark{Name: n - i, At: 10 * i})
	}
	return out
}

func wrongMarks() [][]impl.Mark {
	out := [][]impl.Mark{
		manyMarks(101), manyMarks(2000),
		{{Name: 7, At: 200}, {Name: 7, At: 500}},
		{{Name: 7, At: 1}, {Name: 8, At: 2}, {Name: 9, At: 3}, {Name: 7, At: 4}},
		{{Name: 7, At: 200}, {Name: 9, At: 200}},
		{{Name: 7, At: 0}, {Name: 9, At: 0}},
		{{Name: 7, At: 200}, {Name: 9, At: 199}},
		{{Name: 7, At: 1}, {Name: 8, At: 5}, {Name: 9, At: 4}},
		{{Name: 7, At: 200}, {Name: 7, At: 200}},
		{{}},
	}
	for _, name := range []int{0, -1, most + 1, math.MinInt, math.MaxInt} {
		out = append(out, []impl.Mark{{Name: name, At: 5}}, []impl.Mark{{Name: 7, At: 1}, {Name: name, At: 5}, {Name: 8, At: 9}})
	}
	for _, at := range []int{-1, maxAt + 1, math.MinInt, math.MaxInt} {
		out = append(out, []impl.Mark{{Name: 7, At: at}})
	}
	return append(out, []impl.Mark{{Name: 7, At: -1}, {Name: 9, At: 5}}, []impl.Mark{{Name: 7, At: 5}, {Name: 9, At: maxAt + 1}})
}

func wrongEvents() []impl.Event {
	out := []impl.Event{
		wheel(-1), wheel(100001), read(0), read(-1), read(most + 1),
		event(3, 1), event(3, -1), event(4, 1), event(4, -1),
	}
	for _, n := range []int{math.MinInt, math.MaxInt} {
		for op := 1; op <= 4; op++ {
			out = append(out, event(op, n))
		}
		out = append(out, event(n, 0), event(n, n))
	}
	for _, op := range []int{0, 5, -1, -2, 6} {
		out = append(out, event(op, 0), event(op, 1))
	}
	return out
}

// wrongStates are wrong beside twoMarks.
func wrongStates() []impl.State {
	out := []impl.State{
		{}, // Last is 0, of a place that is not known
		{Bound: bound(0, 1), Last: -1}, {Bound: bound(-1, 0), Last: -1}, {Bound: bound(5, 5), Last: -1},
		{Bound: bound(1, 0), Last: -1}, {Last: 0}, {Last: 1}, {Last: -2}, {Last: 2}, {Since: 3, Last: 1, Odd: 4},
	}
	for _, n := range []int{-2, 2, math.MinInt, math.MaxInt} {
		out = append(out, known(0, 0, 0, n, 0))
	}
	for _, n := range []int{-1, most + 1, math.MinInt, math.MaxInt} {
		out = append(out, known(0, 0, n, 0, 0), known(0, 0, 0, 0, n), unknown(n, 0), unknown(0, n))
	}
	for _, b := range wrongBounds() {
		out = append(out, impl.State{Known: true, Bound: b, Last: 1}, impl.State{Bound: b, Last: -1})
	}
	return out
}

func TestEventNumbers(t *testing.T) {
	if impl.MaxEvents != 2000 || impl.EWheel != 1 || impl.EMark != 2 || impl.EStand != 3 || impl.ELose != 4 {
		t.Error(impl.MaxEvents, impl.EWheel, impl.EMark, impl.EStand, impl.ELose)
	}
}

func TestMarksOk(t *testing.T) {
	for _, m := range [][]impl.Mark{
		nil, {}, twoMarks(), manyMarks(1), manyMarks(99), manyMarks(100),
		{{Name: 1, At: 0}}, {{Name: most, At: maxAt}},
		{{Name: 1, At: 0}, {Name: most, At: maxAt}}, {{Name: most, At: 0}, {Name: 1, At: 1}},
		{{Name: 5, At: maxAt - 1}, {Name: 4, At: maxAt}},
	} {
		if !impl.MarksOk(m) {
			t.Errorf("%v is refused", m)
		}
	}
	for _, m := range wrongMarks() {
		if impl.MarksOk(m) {
			t.Errorf("%v is accepted", m)
		}
	}
}

func TestEventOk(t *testing.T) {
	for _, e := range []impl.Event{wheel(0), wheel(1), wheel(100000), read(1), read(2), read(most), stand(), lose()} {
		if !impl.EventOk(e) {
			t.Errorf("%v is refused", e)
		}
	}
	for _, e := range wrongEvents() {
		if impl.EventOk(e) {
			t.Errorf("%v is accepted", e)
		}
	}
}

func TestStateOk(t *testing.T) {
	for _, s := range []impl.State{
		known(0, 0, 0, -1, 0), known(0, 0, 0, 0, 0), known(0, 0, 0, 1, 0), known(-5, 7, 3, 1, 2),
		known(-maxAt, maxAt, most, 1, most), known(-maxAt, -maxAt, 0, -1, 1), known(maxAt, maxAt, 1, -1, 0),
		unknown(0, 0), unknown(5, 0), unknown(0, 5), unknown(most, most),
	} {
		if !impl.StateOk(twoMarks(), s) {
			t.Errorf("%+v is refused", s)
		}
	}
	for _, s := range wrongStates() {
		if impl.StateOk(twoMarks(), s) {
			t.Errorf("%+v is accepted", s)
		}
	}
}

func TestStateOkAndMarks(t *testing.T) {
	for _, m := range wrongMarks() {
		if impl.StateOk(m, known(1, 2, 0, -1, 0)) || impl.StateOk(m, unknown(0, 0)) {
			t.Errorf("a state is right, but its marks %v are not", m)
		}
	}
	for _, none := range [][]impl.Mark{nil, {}} {
		if !impl.StateOk(none, known(1, 2, 0, -1, 0)) || !impl.StateOk(none, unknown(0, 0)) || impl.StateOk(none, known(1, 2, 0, 0, 0)) {
			t.Error("no marks")
		}
	}
	if !impl.StateOk(manyMarks(100), known(1, 2, 0, 99, 0)) || impl.StateOk(manyMarks(100), known(1, 2, 0, 100, 0)) {
		t.Error("100 marks")
	}
}

func TestDoCases(t *testing.T) {
	for _, c := range []struct {
		name  string
		s     impl.State
		e     impl.Event
		after impl.State
	}{
		{"wheels", known(100, 110, 5, 0, 3), wheel(100), known(190, 223, 105, 0, 3)},
		{"wheels, nothing counted", known(100, 110, 5, 0, 3), wheel(0), known(100, 112, 5, 0, 3)},
		{"wheels, most counted", known(100, 110, 0, -1, 0), wheel(100000), known(91008, 111223, 100000, -1, 0)},
		{"wheels, place not known", unknown(5, 3), wheel(100), unknown(105, 3)},
		{"wheels, nothing counted, place not known", unknown(5, 3), wheel(0), unknown(5, 3)},
		{"Since comes to the most", known(100, 110, most-100, 0, 3), wheel(100), known(190, 223, most, 0, 3)},
		{"Since would be one beyond", known(100, 110, most-99, 0, 3), wheel(100), known(190, 223, most, 0, 3)},
		{"Since stays at the most", known(100, 110, most, 0, 3), wheel(100), known(190, 223, most, 0, 3)},
		{"Since stays at the most, place not known", unknown(most, 3), wheel(100000), unknown(most, 3)},
		{"wheels at the end of the way", known(maxAt, maxAt, 0, 1, 0), wheel(100), known(maxAt, maxAt, 100, 1, 0)},

		{"a mark within", known(190, 223, 100, -1, 3), read(7), known(195, 205, 0, 0, 3)},
		{"the same mark again", known(195, 205, 0, 0, 3), read(7), known(195, 205, 0, 0, 3)},
		{"the other mark", known(480, 520, 33, 0, 3), read(9), known(495, 505, 0, 1, 3)},
		{"the bound within the mark's", known(499, 501, 33, 0, 3), read(9), known(499, 501, 0, 1, 3)},
		{"an earlier mark", known(190, 223, 100, 1, 3), read(7), known(195, 205, 0, 0, 3)},
		{"a mark touches the low end", known(205, 300, 8, 1, 3), read(7), known(205, 205, 0, 0, 3)},
		{"a mark misses the low end by one", known(206, 300, 8, 1, 3), read(7), known(195, 300, 0, 0, 4)},
		{"a mark touches the high end", known(100, 195, 8, 1, 3), read(7), known(195, 195, 0, 0, 3)},
		{"a mark misses the high end by one", known(100, 194, 8, 1, 3), read(7), known(100, 205, 0, 0, 4)},
		{"a mark far off", known(195, 205, 8, 0, 0), read(9), known(195, 505, 0, 1, 1)},
		{"Odd comes to the most", known(195, 205, 8, 0, most-1), read(9), known(195, 505, 0, 1, most)},
		{"Odd stays at the most", known(195, 205, 8, 0, most), read(9), known(195, 505, 0, 1, most)},
		{"a mark, place not known", unknown(44, 3), read(9), known(495, 505, 0, 1, 3)},
		{"a mark, place not known, all at the most", unknown(most, most), read(7), known(195, 205, 0, 0, most)},

		{"a mark of no name", known(190, 223, 100, 0, 3), read(8), known(190, 223, 100, 0, 4)},
		{"a mark of no name, least", known(190, 223, 100, -1, 0), read(1), known(190, 223, 100, -1, 1)},
		{"a mark of no name, most", known(190, 223, 100, 1, 0), read(most), known(190, 223, 100, 1, 1)},
		{"a mark of no name that is a place", known(190, 223, 100, 1, 0), read(200), known(190, 223, 100, 1, 1)},
		{"a mark of no name, place not known", unknown(5, 3), read(8), unknown(5, 4)},
		{"a mark of no name, Odd comes to the most", known(190, 223, 100, 0, most-1), read(8), known(190, 223, 100, 0, most)},
		{"a mark of no name, Odd stays at the most", known(190, 223, 100, 0, most), read(8), known(190, 223, 100, 0, most)},
		{"a mark of no name, place not known, Odd stays", unknown(5, most), read(8), unknown(5, most)},

		{"it stands", known(190, 223, 100, 0, 3), stand(), known(190, 223, 100, 0, 3)},
		{"it stands, place not known", unknown(100, 3), stand(), unknown(100, 3)},
		{"it loses its place", known(190, 223, 100, 0, 3), lose(), unknown(0, 3)},
		{"it loses its place, all at the most", known(-maxAt, maxAt, most, 1, most), lose(), unknown(0, most)},
		{"it loses its place again", unknown(100, 3), lose(), unknown(0, 3)},
	} {
		if got := impl.Do(plain, twoMarks(), c.s, c.e); got != c.after {
			t.Errorf("%s: %+v, not %+v", c.name, got, c.after)
		}
	}
}

// TestDoMarksAtTheEnds: the mark's own bound stays on the way, and goes below 0.
func TestDoMarksAtTheEnds(t *testing.T) {
	marks := []impl.Mark{{Name: most, At: 0}, {Name: 1, At: maxAt}}
	for _, c := range []struct {
		s     impl.State
		name  int
		after impl.State
	}{
		{unknown(3, 2), most, known(-5, 5, 0, 0, 2)},
		{unknown(3, 2), 1, known(maxAt-5, maxAt, 0, 1, 2)},
		{known(-maxAt, maxAt, 3, -1, 2), 1, known(maxAt-5, maxAt, 0, 1, 2)},
		{known(-maxAt, -5, 3, -1, 2), most, known(-5, -5, 0, 0, 2)},
		{known(-maxAt, -6, 3, -1, 2), most, known(-maxAt, 5, 0, 0, 3)},
		{known(0, maxAt-6, 3, -1, 2), 1, known(0, maxAt, 0, 1, 3)},
	} {
		if got := impl.Do(plain, marks, c.s, read(c.name)); got != c.after {
			t.Errorf("%+v reads %d: %+v, not %+v", c.s, c.name, got, c.after)
		}
	}
}

func TestDoEachOfManyMarks(t *testing.T) {
	for i, m := range manyMarks(100) {
		if got := impl.Do(plain, manyMarks(100), unknown(9, 1), read(m.Name)); got != known(m.At-5, m.At+5, 0, i, 1) {
			t.Errorf("mark %v: %+v", m, got)
		}
	}
}

func TestDoNoMarks(t *testing.T) {
	for _, none := range [][]impl.Mark{nil, {}} {
		if got := impl.Do(plain, none, known(1, 2, 3, -1, 4), read(1)); got != known(1, 2, 3, -1, 5) {
			t.Errorf("%+v", got)
		}
		if got := impl.Do(plain, none, unknown(3, 4), read(1)); got != unknown(3, 5) {
			t.Errorf("%+v", got)
		}
		if got := impl.Do(plain, none, known(100, 110, 0, -1, 4), wheel(100)); got != known(190, 223, 100, -1, 4) {
			t.Errorf("%+v", got)
		}
	}
}

func TestDoWrong(t *testing.T) {
	refused := func(what any, r impl.Rules, m []impl.Mark, s impl.State, e impl.Event) {
		t.Helper()
		if got := impl.Do(r, m, s, e); got != (impl.State{}) {
			t.Errorf("%+v, event %v: %+v", what, e, got)
		}
	}
	s := known(190, 223, 100, -1, 3)
	for _, e := range []impl.Event{wheel(5), read(7), read(8), stand(), lose()} {
		for _, r := range wrongRules() {
			refused(r, r, twoMarks(), s, e)
			refused(r, r, twoMarks(), unknown(0, 0), e)
		}
		for _, m := range wrongMarks() {
			refused(m, plain, m, s, e)
			refused(m, plain, m, unknown(0, 0), e)
		}
		for _, w := range wrongStates() {
			refused(w, plain, twoMarks(), w, e)
		}
	}
	for _, e := range wrongEvents() {
		refused(e, plain, twoMarks(), s, e)
		refused(e, plain, twoMarks(), unknown(0, 0), e)
	}
}

func TestRunCases(t *testing.T) {
	got := impl.Run(plain, twoMarks(), bound(100, 110), []impl.Event{
		stand(), wheel(100), read(7), wheel(0), read(8), read(9), lose(), lose(), stand(), wheel(10), wheel(20), read(1), read(9), wheel(10),
	})
	want := []impl.State{
		known(100, 110, 0, -1, 0),
		known(190, 223, 100, -1, 0),
		known(195, 205, 0, 0, 0),
		known(195, 207, 0, 0, 0),
		known(195, 207, 0, 0, 1),
		known(195, 505, 0, 1, 2),
		unknown(0, 2),
		unknown(0, 2),
		unknown(0, 2),
		unknown(10, 2),
		unknown(30, 2),
		unknown(30, 3),
		known(495, 505, 0, 1, 3),
		known(503, 518, 10, 1, 3),
	}
	if !slices.Equal(got, want) {
		t.Errorf("%+v\nnot\n%+v", got, want)
	}
}

func TestRunNoEvents(t *testing.T) {
	for _, none := range [][]impl.Event{nil, {}} {
		if got := impl.Run(plain, twoMarks(), bound(100, 110), none); len(got) != 0 {
			t.Errorf("%+v", got)
		}
	}
}

func TestRunNoMarks(t *testing.T) {
	for _, none := range [][]impl.Mark{nil, {}} {
		got := impl.Run(plain, none, bound(100, 110), []impl.Event{wheel(100), read(7)})
		if !slices.Equal(got, []impl.State{known(190, 223, 100, -1, 0), known(190, 223, 100, -1, 1)}) {
			t.Errorf("%+v", got)
		}
	}
}

func TestRunMostEvents(t *testing.T) {
	events := slices.Repeat([]impl.Event{wheel(100000)}, 2001)
	got := impl.Run(slipping(0, 0), manyMarks(100), bound(-maxAt, -maxAt), events[:2000])
	if len(got) != 2000 {
		t.Fatalf("2000 events: %d states", len(got))
	}
	for i, s := range got {
		// A way of 2 MaxAt is just 2000 times the most that is counted at once.
		if at := -maxAt + 100000*(i+1); s != known(at, at, 100000*(i+1), -1, 0) {
			t.Fatalf("%d: %+v", i, s)
		}
	}
	if got := impl.Run(slipping(0, 0), manyMarks(100), bound(-maxAt, -maxAt), events); len(got) != 0 {
		t.Errorf("2001 events: %d states", len(got))
	}
}

func TestRunWrong(t *testing.T) {
	refused := func(what any, r impl.Rules, m []impl.Mark, b impl.Bound, e []impl.Event) {
		t.Helper()
		if got := impl.Run(r, m, b, e); len(got) != 0 {
			t.Errorf("%+v: %+v", what, got)
		}
	}
	b, events := bound(100, 110), []impl.Event{wheel(5), lose(), read(7), stand()}
	for _, r := range wrongRules() {
		refused(r, r, twoMarks(), b, events)
		refused(r, r, twoMarks(), b, events[3:])
	}
	for _, m := range wrongMarks() {
		refused(m, plain, m, b, events)
		refused(m, plain, m, b, events[3:])
	}
	for _, w := range wrongBounds() {
		refused(w, plain, twoMarks(), w, events)
		refused(w, plain, twoMarks(), w, events[1:])
		refused(w, plain, twoMarks(), w, events[3:])
	}
	for _, e := range wrongEvents() {
		for i := range len(events) + 1 {
			refused(e, plain, twoMarks(), b, slices.Insert(slices.Clone(events), i, e))
		}
	}
}

// eachRun goes through every run of up to so many events of a handful.
func eachRun(long int, do func(events []impl.Event)) {
	kinds := []impl.Event{wheel(0), wheel(7), wheel(100000), read(7), read(9), read(8), stand(), lose()}
	var grow func(events []impl.Event)
	grow = func(events []impl.Event) {
		do(events)
		if len(events) < long {
			for _, e := range kinds {
				grow(append(slices.Clip(events), e))
			}
		}
	}
	grow(nil)
}

// TestRunIsDoBehindDo: a run is Do one after the other, and every state of it is one.
func TestRunIsDoBehindDo(t *testing.T) {
	for _, begin := range []impl.Bound{bound(100, 110), bound(-maxAt, maxAt), bound(maxAt, maxAt)} {
		eachRun(4, func(events []impl.Event) {
			s := known(begin.Low, begin.High, 0, -1, 0)
			got := impl.Run(plain, twoMarks(), begin, events)
			if len(got) != len(events) {
				t.Fatalf("%v: %d states", events, len(got))
			}
			for i, e := range events {
				s = impl.Do(plain, twoMarks(), s, e)
				if got[i] != s || !impl.StateOk(twoMarks(), got[i]) {
					t.Fatalf("%v, %d: %+v, Do says %+v", events, i, got[i], s)
				}
			}
		})
	}
}

func TestDoAndRunWriteNothing(t *testing.T) {
	marks := append(twoMarks(), impl.Mark{Name: 5, At: 600})
	events := []impl.Event{wheel(100), read(7), read(8), read(9), lose(), wheel(3), read(5), stand(), wheel(9)}
	// Room behind the lists, that an append would write into.
	marksRoom, eventsRoom := append(marks, impl.Mark{Name: -1, At: -1}), append(events, event(-1, -1))
	marksWas, eventsWas := slices.Clone(marksRoom), slices.Clone(eventsRoom)
	marks, events = marksRoom[:len(marks)], eventsRoom[:len(events)]

	first := impl.Run(plain, marks, bound(100, 110), events)
	firstWas := slices.Clone(first)
	second := impl.Run(plain, marks, bound(100, 110), events)
	if !slices.Equal(first, second) || len(first) != len(events) {
		t.Errorf("%+v\nthen\n%+v", first, second)
	}
	clear(second)
	if !slices.Equal(first, firstWas) {
		t.Error("two answers share memory")
	}
	for _, e := range events {
		once := impl.Do(plain, marks, known(190, 223, 100, 2, 3), e)
		if again := impl.Do(plain, marks, known(190, 223, 100, 2, 3), e); once != again {
			t.Errorf("event %v: %+v, then %+v", e, once, again)
		}
	}
	if !slices.Equal(marksRoom, marksWas) || !slices.Equal(eventsRoom, eventsWas) {
		t.Errorf("an argument was written into: %v %v", marksRoom, eventsRoom)
	}
}
