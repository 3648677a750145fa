package trace

import (
	"math"
	"slices"
	"testing"

	"cyanotype/api"
)

// numbers are those that an event may have: each int may.
func numbers() []int {
	return []int{0, 1, 2, 3, -1, -2, 255, 1 << 20, 1 << 31, -1 << 31, 1<<32 + 1, math.MaxInt, math.MinInt}
}

// otherKinds are some beside the three: no event is of one of them.
func otherKinds() []int {
	return []int{0, 4, 5, -1, -2, -3, 257, 258, 259, 1<<32 + 1, 1<<32 + 2, 1<<32 + 3, math.MaxInt, math.MinInt}
}

// record lays events by the calls of their kinds.
func record(r *Recorder, l []api.Event) {
	for _, e := range l {
		switch e.Kind {
		case api.Idx:
			r.Idx(e.N)
		case api.Br:
			r.Br(e.N)
		default:
			r.Open()
		}
	}
}

// recorded is a new recorder with these events.
func recorded(l ...api.Event) *Recorder {
	r := New()
	record(r, l)
	return r
}

func idx(n int) api.Event { return api.Event{Kind: api.Idx, N: n} }
func br(n int) api.Event  { return api.Event{Kind: api.Br, N: n} }
func open() api.Event     { return api.Event{Kind: api.Open} }

// many is a long trace of all kinds, in no order that sorting would give.
func many() []api.Event {
	var l []api.Event
	for i := range 3000 {
		switch i % 7 {
		case 0, 3:
			l = append(l, br(i*31%17))
		case 5:
			l = append(l, open())
		default:
			l = append(l, idx(-i*i))
		}
	}
	return l
}

func wantEvents(t *testing.T, r *Recorder, expect ...api.Event) {
	t.Helper()
	if got := r.Events(); !slices.Equal(got, expect) {
		t.Errorf("Events() = %v, want %v", got, expect)
	}
}

func wantCounts(t *testing.T, r *Recorder, idxs, brs, opens int) {
	t.Helper()
	for i, n := range []int{idxs, brs, opens} {
		if got := r.Count(i + 1); got != n {
			t.Errorf("Count(%d) = %d, want %d", i+1, got, n)
		}
	}
	for _, kind := range otherKinds() {
		if got := r.Count(kind); got != 0 {
			t.Errorf("Count(%d) = %d, want 0", kind, got)
		}
	}
}

// wantSame asks both ways round: Same knows no first and second.
func wantSame(t *testing.T, a, b *Recorder, expect bool) {
	t.Helper()
	if Same(a, b) != expect {
		t.Errorf("Same(%v, %v) = %v", a.Events(), b.Events(), !expect)
	}
	if Same(b, a) != expect {
		t.Errorf("Same(%v, %v) = %v", b.Events(), a.Events(), !expect)
	}
}

func TestExample(t *testing.T) {
	r := New()
	r.Idx(3)
	r.Br(1)
	wantEvents(t, r, api.Event{Kind: 1, N: 3}, api.Event{Kind: 2, N: 1})
	wantCounts(t, r, 1, 1, 0)
}

func TestNew(t *testing.T) {
	r := New()
	if r == nil {
		t.Fatal("New() is nil")
	}
	if got := len(r.Events()); got != 0 {
		t.Errorf("a new recorder has %d events", got)
	}
	wantCounts(t, r, 0, 0, 0)
}

func TestOneEvent(t *testing.T) {
	for _, n := range numbers() {
		r := New()
		r.Idx(n)
		wantEvents(t, r, api.Event{Kind: 1, N: n})
		wantCounts(t, r, 1, 0, 0)

		r = New()
		r.Br(n)
		wantEvents(t, r, api.Event{Kind: 2, N: n})
		wantCounts(t, r, 0, 1, 0)
	}
	r := New()
	r.Open()
	wantEvents(t, r, api.Event{Kind: 3, N: 0})
	wantCounts(t, r, 0, 0, 1)
}

func TestManyEvents(t *testing.T) {
	l := many()
	r := recorded(l...)
	wantEvents(t, r, l...)
	var counts [4]int
	for _, e := range l {
		counts[e.Kind]++
	}
	wantCounts(t, r, counts[1], counts[2], counts[3])
}

// TestBehindAll holds the trace against what was laid after each event, so that none moves once it is there.
func TestBehindAll(t *testing.T) {
	r := New()
	var l []api.Event
	for _, e := range many()[:200] {
		record(r, []api.Event{e})
		l = append(l, e)
		wantEvents(t, r, l...)
	}
}

func TestLikeEventsAreEachKept(t *testing.T) {
	r := recorded(idx(7), idx(7), br(7), br(7), br(7), open(), open(), open(), open())
	wantEvents(t, r, idx(7), idx(7), br(7), br(7), br(7), open(), open(), open(), open())
	wantCounts(t, r, 2, 3, 4)
}

func TestOpenHasNoNumber(t *testing.T) {
	r := recorded(idx(5), open(), br(-9), open())
	wantEvents(t, r, idx(5), api.Event{Kind: 3, N: 0}, br(-9), api.Event{Kind: 3, N: 0})
}

func TestAskingRecordsNothing(t *testing.T) {
	l := []api.Event{idx(1), br(2), open()}
	r, other := recorded(l...), recorded(l...)
	for range 3 {
		r.Events()
		wantCounts(t, r, 1, 1, 1)
		wantSame(t, r, other, true)
		wantSame(t, r, nil, false)
	}
	wantEvents(t, r, l...)
	wantEvents(t, other, l...)
}

func TestSame(t *testing.T) {
	for _, l := range [][]api.Event{
		nil,
		{idx(0)},
		{br(0)},
		{open()},
		{idx(math.MinInt)},
		{br(math.MaxInt)},
		{idx(3), br(1)},
		{open(), open(), idx(-1), br(-1)},
		many(),
	} {
		r := recorded(l...)
		wantSame(t, r, r, true)
		wantSame(t, r, recorded(l...), true)
	}
}

// TestSameWhileGrowing also asks again after more was laid: an answer is of what is there now.
func TestSameWhileGrowing(t *testing.T) {
	a, b := New(), New()
	for _, e := range many()[:200] {
		wantSame(t, a, b, true)
		record(a, []api.Event{e})
		wantSame(t, a, b, false)
		record(b, []api.Event{e})
	}
	wantSame(t, a, b, true)
}

func TestDifferent(t *testing.T) {
	for _, c := range []struct {
		name string
		a, b []api.Event
	}{
		{"none and one", nil, []api.Event{idx(0)}},
		{"none and an opening", nil, []api.Event{open()}},
		{"kind Idx, Br", []api.Event{idx(4)}, []api.Event{br(4)}},
		{"kind Idx, Open", []api.Event{idx(0)}, []api.Event{open()}},
		{"kind Br, Open", []api.Event{br(0)}, []api.Event{open()}},
		{"number of Idx", []api.Event{idx(4)}, []api.Event{idx(5)}},
		{"number of Br", []api.Event{br(4)}, []api.Event{br(5)}},
		{"sign", []api.Event{idx(4)}, []api.Event{idx(-4)}},
		{"beyond 32 bits", []api.Event{idx(1)}, []api.Event{idx(1<<32 + 1)}},
		{"least and most", []api.Event{br(math.MinInt)}, []api.Event{br(math.MaxInt)}},
		{"order of numbers", []api.Event{idx(1), idx(2)}, []api.Event{idx(2), idx(1)}},
		{"order of kinds", []api.Event{idx(1), br(1)}, []api.Event{br(1), idx(1)}},
		{"numbers changed over", []api.Event{idx(1), br(2)}, []api.Event{idx(2), br(1)}},
		{"one is the other's beginning", []api.Event{idx(1), br(2)}, []api.Event{idx(1), br(2), open()}},
		{"one is the other's end", []api.Event{br(2), open()}, []api.Event{idx(1), br(2), open()}},
		{"once and twice", []api.Event{open()}, []api.Event{open(), open()}},
	} {
		t.Run(c.name, func(t *testing.T) {
			wantSame(t, recorded(c.a...), recorded(c.b...), false)
		})
	}
}

// TestOneEventTellsApart is what holds: wherever in a trace the one event is that differs.
func TestOneEventTellsApart(t *testing.T) {
	l := many()[:60]
	r := recorded(l...)
	for i, e := range l {
		apart := func(name string, other []api.Event) {
			t.Helper()
			if Same(r, recorded(other...)) || Same(recorded(other...), r) {
				t.Errorf("%s: event %d does not tell apart", name, i)
			}
		}
		changed := slices.Clone(l)
		changed[i] = api.Event{Kind: e.Kind%2 + 1, N: e.N}
		apart("kind", changed)
		if e.Kind != api.Open {
			changed[i] = api.Event{Kind: e.Kind, N: e.N + 1}
			apart("number", changed)
		}
		apart("one fewer", slices.Delete(slices.Clone(l), i, i+1))
		apart("one more", slices.Insert(slices.Clone(l), i, br(12345)))
		if i > 0 && l[i-1] != e {
			changed = slices.Clone(l)
			changed[i-1], changed[i] = changed[i], changed[i-1]
			apart("order", changed)
		}
	}
}

func TestNilRecorder(t *testing.T) {
	var r *Recorder
	for _, n := range numbers() {
		r.Idx(n)
		r.Br(n)
		r.Open()
	}
	if got := len(r.Events()); got != 0 {
		t.Errorf("a nil recorder has %d events", got)
	}
	wantCounts(t, r, 0, 0, 0)
	wantSame(t, r, nil, true)
}

func TestSameOfNil(t *testing.T) {
	wantSame(t, nil, nil, true)
	wantSame(t, nil, New(), true)
	for _, l := range [][]api.Event{{idx(0)}, {br(0)}, {open()}, many()} {
		wantSame(t, nil, recorded(l...), false)
	}
}

func TestListIsTheCallers(t *testing.T) {
	l := []api.Event{idx(3), br(1), open()}
	r, other := recorded(l...), recorded(l...)
	got, second := r.Events(), r.Events()
	for i := range got {
		got[i] = api.Event{Kind: -1, N: -1}
	}
	wantEvents(t, r, l...)
	wantCounts(t, r, 1, 1, 1)
	wantSame(t, r, other, true)
	if !slices.Equal(second, l) {
		t.Errorf("two lists share memory: %v", second)
	}
}

// TestListsDoNotGrowIntoEachOther lays events at each length, as memory is shared behind the length if at all.
func TestListsDoNotGrowIntoEachOther(t *testing.T) {
	r := New()
	var l []api.Event
	for i := range 70 {
		got := r.Events()
		longer := append(got, api.Event{Kind: -1, N: -1})
		r.Idx(i)
		if longer[i] != (api.Event{Kind: -1, N: -1}) {
			t.Fatalf("an event went into the caller's list: %v", longer[i])
		}
		if !slices.Equal(got, l) {
			t.Fatalf("a list changed after it came out: %v, want %v", got, l)
		}
		_ = append(r.Events()[:i], br(-1))
		l = append(l, idx(i))
		wantEvents(t, r, l...)
		for _, e := range got[len(got):cap(got)] {
			if e != (api.Event{}) && e != (api.Event{Kind: -1, N: -1}) {
				t.Fatalf("an event lies behind the list's length: %v", e)
			}
		}
	}
}

func TestRecordersKnowNothingOfEachOther(t *testing.T) {
	a, b := New(), New()
	a.Idx(1)
	b.Br(2)
	a.Open()
	b.Idx(3)
	wantEvents(t, a, idx(1), open())
	wantEvents(t, b, br(2), idx(3))
	wantEvents(t, New())
}

// TestCallsAsValues takes the calls as later layers may: bound to their recorder, nil or not.
func TestCallsAsValues(t *testing.T) {
	r := New()
	var none *Recorder
	for _, to := range []*Recorder{r, none} {
		seeIdx, seeBr, seeOpen := to.Idx, to.Br, to.Open
		seeIdx(-8)
		seeOpen()
		seeBr(9)
	}
	wantEvents(t, r, idx(-8), open(), br(9))
	wantEvents(t, none)
}
