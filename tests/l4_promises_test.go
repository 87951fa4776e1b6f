package tests

import (
	"slices"
	"testing"

	"loop.example/milepost/impl"
)

// dice draws the same numbers every time, so that what it finds once it finds again.
type dice uint64

func (d *dice) below(n int) int {
	*d = *d*6364136223846793005 + 1442695040888963407
	return int(uint64(*d>>33) % uint64(n))
}

// within draws either end often: that is where a bound goes wrong first.
func (d *dice) within(low, high int) int {
	switch d.below(4) {
	case 0:
		return low
	case 1:
		return high
	}
	return low + d.below(high-low+1)
}

func (d *dice) of(some ...int) int { return some[d.below(len(some))] }

// journey is a train whose wheels err no more than they may, and a bound that holds its front at first.
type journey struct {
	r     impl.Rules
	marks []impl.Mark
	at    int
	ticks []impl.True
	reads []int
	begin impl.Bound
}

func drawJourney(d *dice) journey {
	scale := d.of(3, 40, 1000, 100000)
	j := journey{r: drawRules(d, scale), at: d.of(0, scale, 50000000, maxAt-3*scale, maxAt)}
	j.marks = drawMarks(d, max(j.at-2*scale, 0), scale)
	front := j.at
	for range d.below(25) {
		far := d.within(0, min(scale, maxAt-front))
		front += far
		j.ticks = append(j.ticks, tick(far, drawCounted(d, j.r, far)))
		j.reads = append(j.reads, d.of(0, 1, 1, 2))
	}
	apart := d.of(0, 1, scale, 10*scale)
	j.begin = bound(max(j.at-d.within(0, apart), -maxAt), min(j.at+d.within(0, apart), maxAt))
	return j
}

func drawRules(d *dice, scale int) impl.Rules {
	return impl.Rules{
		Slip:  d.of(0, 1, 100, 500, d.below(501)),
		Jolt:  d.of(0, 1, d.below(10), d.within(0, min(scale, 1000))),
		Mark:  d.of(0, 1, d.below(20), d.within(0, min(scale, 10000))),
		Long:  d.within(1, min(2*scale, 1000000)),
		Loose: d.of(0, 1, d.within(0, min(2*scale, 10000))),
	}
}

func drawMarks(d *dice, from, scale int) []impl.Mark {
	var out []impl.Mark
	gap := d.of(1, 4, scale)
	for i := range d.below(30) {
		if from > maxAt {
			break
		}
		out = append(out, impl.Mark{Name: 1000 - i, At: from})
		from += d.within(1, gap)
	}
	return out
}

// drawCounted goes by the document's own sentence: what is counted is off by no more than it may be.
func drawCounted(d *dice, r impl.Rules, far int) int {
	off := (r.Slip*far + 1000*r.Jolt) / 1000
	return d.within(max(far-off, 0), min(far+off, 100000))
}

// seen is how often the trains came by what they must have come by for the test to tell something.
type seen map[string]int

func (s seen) add(what string, is bool) {
	if is {
		s[what]++
	}
}

// checkJourney goes along with what is felt, and with where the front truly is meanwhile.
func checkJourney(t *testing.T, j journey, events []impl.Event, saw seen) {
	t.Helper()
	states := impl.Run(j.r, j.marks, j.begin, events)
	if len(states) != len(events) {
		t.Fatalf("%+v: %d events, %d states", j, len(events), len(states))
	}
	front, come, lost := j.at, 0, false
	for i, e := range events {
		switch e.Op {
		case impl.EWheel:
			front += j.ticks[come].Far
			come++
		case impl.EMark:
			lost = false
			saw.add("several marks at one place", i > 0 && events[i-1].Op == impl.EMark)
			saw.add("a mark that makes it narrower", i > 0 && wide(states[i].Bound) < wide(states[i-1].Bound))
		case impl.ELose:
			lost = true
		}
		s := states[i]
		if s.Known == lost || s.Odd != 0 {
			t.Fatalf("%+v\nevent %d: %+v", j, i, s)
		}
		if lost {
			continue
		}
		if front < s.Bound.Low || front > s.Bound.High {
			t.Fatalf("%+v\nevent %d: the front is at %d, not in %v", j, i, front, s.Bound)
		}
		saw.add("the front at the Low of a wide bound", front == s.Bound.Low && wide(s.Bound) > 0)
		saw.add("the front at the High of a wide bound", front == s.Bound.High && wide(s.Bound) > 0)
		saw.add("the front at MaxAt", front == maxAt)
		for _, long := range []int{max(j.r.Long-j.r.Loose, 0), j.r.Long, j.r.Long + j.r.Loose} {
			checkBody(t, j.r, s, front-long, front, saw)
		}
	}
	if come != len(j.ticks) {
		t.Fatalf("%+v: %d of %d ticks are felt", j, come, len(j.ticks))
	}
}

func checkBody(t *testing.T, r impl.Rules, s impl.State, rear, front int, saw seen) {
	t.Helper()
	holds, surely := impl.Holds(r, s), impl.Surely(r, s)
	if rear < holds.Low || front > holds.High {
		t.Fatalf("%+v, %+v: the train is at %d to %d, Holds is %v", r, s, rear, front, holds)
	}
	if surely.Low <= surely.High && (surely.Low < rear || surely.High > front) {
		t.Fatalf("%+v, %+v: the train is at %d to %d, Surely is %v", r, s, rear, front, surely)
	}
	saw.add("surely somewhere", surely.Low <= surely.High)
	saw.add("surely nowhere", surely.Low > surely.High)
	for _, x := range []int{-maxAt, holds.Low - 1, holds.Low, rear - 1, rear, rear + 1, s.Bound.Low, front - 1, front, front + 1, holds.High, holds.High + 1, maxAt} {
		past, room := impl.Past(r, s, x), impl.Room(r, s, x)
		if past == 1 && rear <= x || past == -1 && front >= x || room >= 0 && room > x-front {
			t.Fatalf("%+v, %+v: the train is at %d to %d, Past %d is %d, Room %d", r, s, rear, front, x, past, room)
		}
		saw.add("past a place", past == 1)
		saw.add("just past a place", past == 1 && rear == x+1)
		saw.add("not yet at a place", past == -1)
	}
}

func feltOf(t *testing.T, j journey) []impl.Event {
	t.Helper()
	if !impl.Fair(j.r, j.ticks) {
		t.Fatalf("%+v is not fair", j)
	}
	return impl.Felt(j.r, j.marks, j.at, j.ticks, j.reads)
}

func checkSeen(t *testing.T, saw seen) {
	t.Helper()
	for _, what := range []string{
		"several marks at one place", "a mark that makes it narrower",
		"the front at the Low of a wide bound", "the front at the High of a wide bound", "the front at MaxAt",
		"surely somewhere", "surely nowhere", "past a place", "just past a place", "not yet at a place",
	} {
		if saw[what] < 100 {
			t.Errorf("%s: %d times only", what, saw[what])
		}
	}
}

// TestFrontIsInTheBound is P3, of trains that are drawn.
func TestFrontIsInTheBound(t *testing.T) {
	d, saw := dice(1), seen{}
	for range 20000 {
		j := drawJourney(&d)
		checkJourney(t, j, feltOf(t, j), saw)
	}
	checkSeen(t, saw)
}

// TestFrontIsInTheBoundOnceItIsKnown is P3 of trains that stand and lose their place in between.
func TestFrontIsInTheBoundOnceItIsKnown(t *testing.T) {
	d, saw := dice(2), seen{}
	for range 10000 {
		j := drawJourney(&d)
		var events []impl.Event
		for _, e := range feltOf(t, j) {
			if events = append(events, e); d.below(3) == 0 {
				events = append(events, event(d.of(impl.EStand, impl.ELose), 0))
			}
		}
		checkJourney(t, j, events, saw)
	}
	checkSeen(t, saw)
}

// TestFrontIsInTheBoundAllAlong is P3 of long journeys: no fault adds up.
func TestFrontIsInTheBoundAllAlong(t *testing.T) {
	d, saw := dice(3), seen{}
	for range 40 {
		j := journey{r: drawRules(&d, 1000), at: d.below(1000)}
		for i := range 100 {
			j.marks = append(j.marks, impl.Mark{Name: 500 - i, At: 2000*i + d.below(2000)})
		}
		j.begin = bound(j.at-d.below(3), j.at+d.below(3))
		for range 1500 {
			far := d.within(0, 300)
			j.ticks = append(j.ticks, tick(far, drawCounted(&d, j.r, far)))
			j.reads = append(j.reads, d.of(0, 0, 0, 0, 1))
		}
		if events := feltOf(t, j); len(events) > 0 {
			checkJourney(t, j, events, saw)
			saw.add("long journeys", true)
		}
	}
	if saw["long journeys"] < 20 || saw["a mark that makes it narrower"] < 100 {
		t.Error(saw)
	}
}

// TestFrontOfEverySmallTrain is P3 of every train of two small ticks, by a few rules.
func TestFrontOfEverySmallTrain(t *testing.T) {
	saw := seen{}
	marks := []impl.Mark{{Name: 8, At: 2}, {Name: 6, At: 3}, {Name: 7, At: 6}}
	for _, r := range []impl.Rules{
		{Slip: 0, Jolt: 0, Mark: 0, Long: 2}, {Slip: 500, Jolt: 0, Mark: 1, Long: 2, Loose: 1},
		{Slip: 0, Jolt: 1, Mark: 2, Long: 1, Loose: 2}, {Slip: 400, Jolt: 1, Mark: 1, Long: 3, Loose: 1},
	} {
		may := fairTicks(r, 4)
		for from := range 4 {
			for _, one := range may {
				for _, two := range may {
					for reads := range 4 {
						for apart := range 3 {
							j := journey{r, marks, from, []impl.True{one, two}, []int{reads % 2, reads / 2}, bound(from-apart/2, from+(apart+1)/2)}
							checkJourney(t, j, feltOf(t, j), saw)
						}
					}
				}
			}
		}
	}
	if saw["several marks at one place"] == 0 || saw["past a place"] == 0 {
		t.Error(saw)
	}
}

func fairTicks(r impl.Rules, farthest int) []impl.True {
	var out []impl.True
	for far := range farthest + 1 {
		for counted := range 2*farthest + r.Jolt + 1 {
			if mayCount(r, far, counted) {
				out = append(out, tick(far, counted))
			}
		}
	}
	return out
}

// TestFrontOfAnUnfairTrain: wheels that err by one more than they may can bring the front out of the bound, and Fair says so of them.
func TestFrontOfAnUnfairTrain(t *testing.T) {
	for _, c := range []struct {
		r impl.Rules
		u impl.True
	}{
		{plain, tick(89, 100)}, {plain, tick(114, 100)}, {bare(0, 0, 0), tick(7, 8)}, {bare(500, 1000, 0), tick(65999, 100000)},
	} {
		if impl.Fair(c.r, []impl.True{c.u}) {
			t.Errorf("%+v: %+v is fair", c.r, c.u)
		}
		events := impl.Felt(c.r, nil, 0, []impl.True{c.u}, []int{0})
		if len(events) != 1 {
			t.Fatalf("%+v: %+v is felt as %v", c.r, c.u, events)
		}
		b := lastOf(t, c.r, nil, bound(0, 0), events...).Bound
		if b.Low <= c.u.Far && c.u.Far <= b.High {
			t.Errorf("%+v: %d is in %v", c.r, c.u.Far, b)
		}
	}
}

// roomy is a list with room behind it, that an append would write into, and all of that as it was.
func roomy[T any](list []T, behind T) (given, whole, was []T) {
	whole = append(slices.Clone(list), behind, behind, behind)
	return whole[:len(list)], whole, slices.Clone(whole)
}

// TestWorldWritesNothing is P10: all of the arguments are as they were, also when the answer is written into.
func TestWorldWritesNothing(t *testing.T) {
	d := dice(4)
	for range 300 {
		j := drawJourney(&d)
		marks, allMarks, marksWas := roomy(j.marks, impl.Mark{Name: -1, At: -1})
		ticks, allTicks, ticksWas := roomy(j.ticks, tick(-1, -1))
		reads, allReads, readsWas := roomy(j.reads, -1)
		impl.Fair(j.r, ticks)
		felt := impl.Felt(j.r, marks, j.at, ticks, reads)
		events, allEvents, eventsWas := roomy(felt, event(-1, -1))
		states := impl.Run(j.r, marks, j.begin, events)
		impl.Answer(j.r, marks, j.begin, events)
		clear(felt[:cap(felt)])
		clear(states[:cap(states)])
		if !slices.Equal(allMarks, marksWas) || !slices.Equal(allTicks, ticksWas) || !slices.Equal(allReads, readsWas) || !slices.Equal(allEvents, eventsWas) {
			t.Fatalf("%+v: an argument was written into", j)
		}
	}
}

// TestWorldRefusesWithoutWriting is P10 of arguments that are not right.
func TestWorldRefusesWithoutWriting(t *testing.T) {
	for _, m := range append(wrongMarks(), twoMarks()) {
		for _, w := range wrongTicks() {
			marks, allMarks, marksWas := roomy(m, impl.Mark{Name: -1, At: -1})
			ticks, allTicks, ticksWas := roomy([]impl.True{exact(5), w, exact(0)}, tick(-1, -1))
			reads, allReads, readsWas := roomy([]int{1, 1, 1}, -1)
			events, allEvents, eventsWas := roomy([]impl.Event{read(7), wheel(w.Counted), lose()}, event(-1, -1))
			impl.Fair(plain, ticks)
			impl.Felt(plain, marks, 200, ticks, reads)
			impl.Run(plain, marks, bound(0, 5), events)
			impl.Answer(plain, marks, bound(0, 5), events)
			if !slices.Equal(allMarks, marksWas) || !slices.Equal(allTicks, ticksWas) || !slices.Equal(allReads, readsWas) || !slices.Equal(allEvents, eventsWas) {
				t.Fatalf("%v, %+v: an argument was written into", m, w)
			}
		}
	}
}

// TestWorldAnswersAreNewMemory is P10: an answer stays as it is, whatever becomes of the arguments and of other answers.
func TestWorldAnswersAreNewMemory(t *testing.T) {
	d := dice(5)
	for range 300 {
		j := drawJourney(&d)
		felt := impl.Felt(j.r, j.marks, j.at, j.ticks, j.reads)
		events := slices.Clone(felt)
		states, text := impl.Run(j.r, j.marks, j.begin, events), impl.Answer(j.r, j.marks, j.begin, events)
		feltWas, statesWas, textWas := slices.Clone(felt), slices.Clone(states), told(states)

		other := impl.Felt(j.r, j.marks, j.at, j.ticks, j.reads)
		clear(other[:cap(other)])
		others := impl.Run(j.r, j.marks, j.begin, events)
		clear(others[:cap(others)])
		clear(events)
		clear(j.marks)
		clear(j.ticks)
		clear(j.reads)
		if !slices.Equal(felt, feltWas) || !slices.Equal(states, statesWas) || text != textWas {
			t.Fatalf("%+v: an answer shares memory", j)
		}
	}
}

// TestWorldSameAnswer is P10: the same arguments, in other memory, with room behind them and without, and with other calls in between.
func TestWorldSameAnswer(t *testing.T) {
	var journeys []journey
	var fair []bool
	var felt [][]impl.Event
	var states [][]impl.State
	var texts []string
	d := dice(6)
	for i := range 300 {
		j := drawJourney(&d)
		if i%3 == 0 {
			j.ticks = append(j.ticks, tick(3, d.of(3, 90000, 100001)))
			j.reads = append(j.reads, 1)
		}
		journeys = append(journeys, j)
		fair = append(fair, impl.Fair(j.r, j.ticks))
		felt = append(felt, impl.Felt(j.r, j.marks, j.at, j.ticks, j.reads))
		states = append(states, impl.Run(j.r, j.marks, j.begin, felt[i]))
		texts = append(texts, impl.Answer(j.r, j.marks, j.begin, felt[i]))
	}
	for i, j := range journeys {
		marks, _, _ := roomy(j.marks, impl.Mark{Name: 1, At: 1})
		ticks, _, _ := roomy(j.ticks, exact(1))
		reads, _, _ := roomy(j.reads, 1)
		events, _, _ := roomy(felt[i], wheel(1))
		if impl.Fair(j.r, ticks) != fair[i] || !slices.Equal(impl.Felt(j.r, marks, j.at, ticks, reads), felt[i]) ||
			!slices.Equal(impl.Run(j.r, marks, j.begin, events), states[i]) || impl.Answer(j.r, marks, j.begin, events) != texts[i] {
			t.Fatalf("%+v: another answer", j)
		}
	}
}

// TestWorldEmptyIsNil: an empty list and nil are the same value.
func TestWorldEmptyIsNil(t *testing.T) {
	ticks, reads, events := []impl.True{exact(5)}, []int{1}, []impl.Event{wheel(5), read(3)}
	if impl.Fair(plain, nil) != impl.Fair(plain, []impl.True{}) {
		t.Error("Fair, no ticks")
	}
	if !slices.Equal(impl.Felt(plain, nil, 5, ticks, reads), impl.Felt(plain, []impl.Mark{}, 5, ticks, reads)) {
		t.Error("Felt, no marks")
	}
	for _, some := range [][]impl.Event{impl.Felt(plain, twoMarks(), 5, nil, []int{}), impl.Felt(plain, twoMarks(), 5, []impl.True{}, nil), impl.Felt(plain, nil, 5, nil, nil)} {
		if len(some) != 0 {
			t.Errorf("Felt, no ticks: %v", some)
		}
	}
	if impl.Answer(plain, nil, bound(1, 2), events) != impl.Answer(plain, []impl.Mark{}, bound(1, 2), events) {
		t.Error("Answer, no marks")
	}
	if impl.Answer(plain, nil, bound(1, 2), nil) != "" || impl.Answer(plain, nil, bound(1, 2), []impl.Event{}) != "" {
		t.Error("Answer, no events")
	}
}
