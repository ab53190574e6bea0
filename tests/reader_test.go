package tests

import (
	"fmt"
	"slices"
	"strconv"
	"testing"

	"loop.example/g00601/impl"
)

// queryBatches leave windows without samples, and samples at both ends of windows.
func queryBatches() [][]impl.Sample {
	return [][]impl.Sample{
		{{T: 1, V: 5}, {T: 3, V: -6}, {T: 9, V: 2}},
		{{T: 12, V: 0}, {T: 14, V: 3}, {T: 19, V: -1}, {T: 24, V: 4}},
		{{T: 27, V: 9}, {T: 30, V: -9}, {T: 33, V: 1}},
		{{T: 34, V: 7}},
		{{T: 41, V: 8}, {T: 42, V: -1000000}, {T: 43, V: 1000000}, {T: 44, V: 3}, {T: 45, V: 3}, {T: 46, V: -7}, {T: 47, V: 4}, {T: 48, V: 5}},
		{{T: 55, V: -2}, {T: 72, V: 6}},
		{{T: 80, V: 1}, {T: 99, V: 2}, {T: 100, V: 3}, {T: 112, V: -5}},
	}
}

// rolled is x with all windows that are due put and published by token, each being what the samples make.
func rolled(t *testing.T, x impl.Store, token int, samples []impl.Sample) impl.Store {
	t.Helper()
	x = withRecords(t, x, claiming(token))
	for {
		tier, window, due := plainDue(plainState(x))
		if !due {
			return x
		}
		x = laid(x, keyed(tier, window.from, token), bucketsWritten(madeAtOnce(samples, window)))
		x = withRecords(t, x, publishing(token, tier, window.from, window.to))
	}
}

// queryStore has several entries of each tier, raw ones from 25 up to 113, of tier 1 from 30 to 110 and of tier 2 from 20 to 100. Data of those that went are gone.
func queryStore(t *testing.T) (impl.Store, []impl.Sample) {
	t.Helper()
	samples := slices.Concat(queryBatches()...)
	x := rolled(t, rawStore(t, mixedStore(), queryBatches()...), 5, samples)
	for tier, n := range []int{2, 6, 1} {
		for range n {
			first, _ := plainFirst(plainState(x), tier)
			x = without(withRecords(t, x, retiring(5, first)), first.Key)
		}
	}
	if s := plainState(x); s.Low != [3]int{25, 30, 20} || s.High != [3]int{113, 110, 100} || len(s.Tombs) != 9 {
		t.Fatal("the log", s)
	}
	return x, samples
}

// later is x after a version that nothing has any more.
func later(x impl.Store) impl.Store {
	y := copied(x)
	y.Next++
	return y
}

// wholeQuery asks a reader, and goes through all steps to the end of its query over a store that nothing else changes. It checks the pin on the way, and answers the reader.
func wholeQuery(t *testing.T, what string, x impl.Store, id, tier int, s span, now int) impl.Reader {
	t.Helper()
	r, code := wantAsked(t, what, impl.Reader{Id: id}, tier, s)
	wantCode(t, what, code, impl.OK)
	y, r, _, _ := wantQuery(t, what, x, r, now)
	pinned := laid(x, pinName(id), strconv.Itoa(now+30))
	for steps := 0; r.Phase != impl.RdUnpin; steps++ {
		if !alike(y, pinned) || steps > 300 {
			t.Fatalf("%s: step %d: the store is not just pinned: %v", what, steps, touched(y, pinned))
		}
		y, r, _, _ = wantQuery(t, what, y, r, now)
	}
	y, r, over, _ := wantQuery(t, what, y, r, now)
	if !over || !alike(y, later(without(x, pinName(id)))) {
		t.Errorf("%s: over %v, touched %v", what, over, touched(x, y))
	}
	if r.Phase != impl.RdIdle || len(r.Left) != 0 || r.Tier != tier || r.From != s.from || r.To != s.to || r.Until != now+30 {
		t.Errorf("%s: at the end: %v", what, r)
	}
	return r
}

func TestP11NewReaders(t *testing.T) {
	for id := range 10 {
		r, code := impl.NewReader(id)
		if code != impl.OK || !alikeReaders(r, impl.Reader{Id: id}) || !impl.ReaderOK(r) {
			t.Errorf("NewReader(%d) = %v, code %d", id, r, code)
		}
	}
	for _, id := range wrongWhos() {
		if r, code := impl.NewReader(id); code != impl.ErrRange || !alikeReaders(r, impl.Reader{}) {
			t.Errorf("NewReader(%d) = %v, code %d", id, r, code)
		}
	}
}

func TestP11AWholeWay(t *testing.T) {
	x, _ := queryStore(t)
	r, code := impl.NewReader(4)
	wantCode(t, "NewReader", code, impl.OK)
	r, code = impl.AskReader(r, 0, 33, 48)
	wantCode(t, "AskReader", code, impl.OK)
	if !alikeReaders(r, impl.Reader{Id: 4, Phase: 1, From: 33, To: 48}) {
		t.Error("asked", r)
	}
	pinned := laid(x, "pin/4", "40")
	raw := []impl.Entry{{From: 25, To: 34, Key: keyed(0, 3, 2)}, {From: 34, To: 35, Key: keyed(0, 4, 2)}, {From: 35, To: 49, Key: keyed(0, 5, 2)}}
	for i, want := range []impl.Reader{
		{Phase: 2},
		{Phase: 3, Left: raw},
		{Phase: 3, Left: raw[1:], Got: impl.Agg{Count: 1, Sum: 1, Min: 1, Max: 1, First: 1, Last: 1}},
		{Phase: 3, Left: raw[2:], Got: impl.Agg{Count: 2, Sum: 8, Min: 1, Max: 7, First: 1, Last: 7}},
		{Phase: 3, Got: impl.Agg{Count: 9, Sum: 8 + 8 + 3 + 3 - 7 + 4, Min: -1000000, Max: 1000000, First: 1, Last: 4}},
		{Phase: 4, Got: impl.Agg{Count: 9, Sum: 19, Min: -1000000, Max: 1000000, First: 1, Last: 4}},
	} {
		want.Id, want.From, want.To, want.Until = 4, 33, 48, 40
		y := pinned
		if i == 0 {
			y = x
		}
		reads(t, fmt.Sprint("step ", i), y, r, 10+i, pinned, want)
		r = want
	}
	// The last reading was in time, so that what is behind it may take as long as it likes.
	unpins(t, "the last step", pinned, r, lastNow, later(x))
	_, v, _, code := wantQuery(t, "nothing left", x, inReading(r, 0), 60)
	if code != impl.ErrIdle || !alikeReaders(v, inReading(r, 0)) {
		t.Error("nothing left", code, v)
	}
}

// Windows are read whole, by where they begin.
func TestP11AWholeWayOverWindows(t *testing.T) {
	x, _ := queryStore(t)
	for _, c := range []struct {
		tier int
		s    span
		n    int
		got  impl.Agg
	}{
		{1, span{30, 35}, 1, impl.Agg{Count: 3, Sum: -1, Min: -9, Max: 7, First: -9, Last: 7}},
		{1, span{35, 40}, 1, impl.Agg{}},
		{1, span{35, 45}, 2, impl.Agg{Count: 4, Sum: 11, Min: -1000000, Max: 1000000, First: 8, Last: 3}},
		{1, span{45, 110}, 13, impl.Agg{Count: 9, Sum: 15, Min: -7, Max: 6, First: 3, Last: 3}},
		{2, span{20, 40}, 1, impl.Agg{Count: 5, Sum: 12, Min: -9, Max: 9, First: 4, Last: 7}},
		{2, span{60, 100}, 2, impl.Agg{Count: 3, Sum: 9, Min: 1, Max: 6, First: 6, Last: 2}},
		{2, span{20, 100}, 4, impl.Agg{Count: 17, Sum: 35, Min: -1000000, Max: 1000000, First: 4, Last: 2}},
	} {
		_, r, _, _ := wantQuery(t, "look", x, inReading(asking(5, c.tier, c.s.from, c.s.to), 2), 50)
		if r.Phase != 3 || len(r.Left) != c.n {
			t.Errorf("tier %d, %v: %d entries are left, want %d; %v", c.tier, c.s, len(r.Left), c.n, r)
		}
		if r := wholeQuery(t, "windows", x, 5, c.tier, c.s, 50); r.Got != c.got || r.Code != impl.OK {
			t.Errorf("tier %d, %v: got %v, code %d, want %v", c.tier, c.s, r.Got, r.Code, c.got)
		}
	}
}

// A query tells all samples of its range, wherever that begins and ends: inside of entries, at their ends, and of nothing.
func TestP11QueriesTellAllSamplesOfTheirRange(t *testing.T) {
	x, samples := queryStore(t)
	s := plainState(x)
	places := [][]int{{25, 26, 27, 28, 30, 33, 34, 35, 36, 41, 44, 48, 49, 50, 55, 56, 72, 73, 74, 99, 100, 112, 113}, {30, 35, 40, 45, 60, 75, 105, 110}, {20, 40, 60, 80, 100}}
	for tier, list := range places {
		for i, from := range list {
			for _, to := range list[i:] {
				what := fmt.Sprintf("tier %d, from %d to %d", tier, from, to)
				r := wholeQuery(t, what, x, (from+to)%10, tier, span{from, to}, 20)
				if want := foldOf(samplesIn(samples, span{from, to})); r.Code != impl.OK || r.Got != want {
					t.Errorf("%s: got %v, code %d, want %v", what, r.Got, r.Code, want)
				}
			}
		}
	}
	// All of a tier, and all of it that is not there.
	for tier := range 3 {
		width := plainWidths[tier]
		for _, c := range []struct {
			s    span
			code int
		}{
			{span{s.Low[tier], s.High[tier]}, impl.OK},
			{span{s.Low[tier] - width, s.High[tier]}, impl.ErrBelow}, {span{s.Low[tier], s.High[tier] + width}, impl.ErrGap},
			{span{0, 100000}, impl.ErrBelow}, {span{s.High[tier], 100000}, impl.ErrGap}, {span{0, s.Low[tier]}, impl.ErrBelow},
		} {
			r := wholeQuery(t, "all", x, tier, tier, c.s, 20)
			want := impl.Agg{}
			if c.code == impl.OK {
				want = foldOf(samplesIn(samples, c.s))
			}
			if r.Code != c.code || r.Got != want {
				t.Errorf("tier %d, %v: got %v, code %d, want %v, code %d", tier, c.s, r.Got, r.Code, want, c.code)
			}
		}
	}
}

func TestP11AWholeWayOverAnEmptyLog(t *testing.T) {
	for _, x := range []impl.Store{impl.NewStore(), mixedStore(), numberedStore(impl.MaxObjects - 1), fetchStore(), laid(mixedStore(), "pin/3", "7"), withLease(mixedStore(), "what")} {
		for tier := range 3 {
			for _, c := range []struct {
				s    span
				code int
			}{
				{span{0, 0}, impl.OK}, {span{0, 20}, impl.ErrGap}, {span{20, 20}, impl.ErrGap}, {span{0, 100000}, impl.ErrGap}, {span{100000, 100000}, impl.ErrGap},
			} {
				for _, now := range []int{0, 10, lastNow} {
					if r := wholeQuery(t, "an empty log", x, 3, tier, c.s, now); r.Code != c.code || r.Got != (impl.Agg{}) {
						t.Errorf("tier %d, %v: got %v, code %d, want nothing, code %d", tier, c.s, r.Got, r.Code, c.code)
					}
				}
			}
		}
	}
	// So is one of records that it does not take.
	x := logged(mixedStore(), "what", "", recordWritten(adding(5, 7, keyed(0, 3, 2))))
	for tier := range 3 {
		if r := wholeQuery(t, "nothing taken", x, 3, tier, span{0, 0}, 10); r.Code != impl.OK {
			t.Error("nothing taken", tier, r)
		}
		if r := wholeQuery(t, "nothing taken", x, 3, tier, span{0, 20}, 10); r.Code != impl.ErrGap {
			t.Error("nothing taken", tier, r)
		}
	}
}

// Raw data up to the last time are told as all others are.
func TestP11TheLastTime(t *testing.T) {
	x := rawStore(t, mixedStore(), samplesOf(3, 99996, 4, 6))
	for _, c := range []struct {
		s   span
		got impl.Agg
	}{
		{span{0, 100000}, impl.Agg{Count: 2, Sum: 10, Min: 4, Max: 6, First: 4, Last: 6}},
		{span{99999, 100000}, impl.Agg{Count: 1, Sum: 6, Min: 6, Max: 6, First: 6, Last: 6}},
		{span{4, 99999}, impl.Agg{}}, {span{100000, 100000}, impl.Agg{}},
	} {
		if r := wholeQuery(t, "the last time", x, 9, 0, c.s, lastNow); r.Got != c.got || r.Code != impl.OK {
			t.Errorf("%v: got %v, code %d, want %v", c.s, r.Got, r.Code, c.got)
		}
	}
}

// Many entries of full batches, up to the most that a reader may have got.
func TestP11QueriesOfManyEntries(t *testing.T) {
	var batches [][]impl.Sample
	for i := range 126 {
		batches = append(batches, samplesOf(10*i, 1, i, 1, -2, 3, -4, 5, -6, 7))
	}
	x := rawStore(t, impl.NewStore(), batches...)
	samples := slices.Concat(batches...)
	for _, c := range []struct {
		s    span
		code int
	}{
		{span{0, 1248}, impl.OK}, {span{10, 1258}, impl.OK}, {span{4, 1254}, impl.OK}, {span{0, 1251}, impl.ErrMany}, {span{7, 1258}, impl.ErrMany},
	} {
		r := wholeQuery(t, "many entries", x, 0, 0, c.s, 10)
		want := foldOf(samplesIn(samples, c.s))
		if c.code == impl.ErrMany {
			// What went ahead of the entry that was too much.
			want = foldOf(samplesIn(samples, span{c.s.from, 1250}))
		}
		if r.Code != c.code || r.Got != want || want.Count != 1000 && c.code == impl.OK {
			t.Errorf("%v: got %v, code %d, want %v, code %d", c.s, r.Got, r.Code, want, c.code)
		}
	}
}
