package tests

import (
	"fmt"
	"testing"

	"loop.example/g00601/impl"
)

// InputsOf and CoverOf: entries that have something of a range.

func TestP8InputsAtTheBoundsOfEntries(t *testing.T) {
	s := plannedState()
	a, b, c := s.Entries[1], s.Entries[4], s.Entries[5]
	for _, x := range []struct {
		why  string
		r    span
		want []impl.Entry
	}{
		{"one ends where it begins", span{31, 32}, []impl.Entry{b}},
		{"two end where it begins or ahead", span{32, 40}, []impl.Entry{c}},
		{"one begins where it ends", span{25, 31}, []impl.Entry{a}},
		{"one time of one", span{30, 31}, []impl.Entry{a}},
		{"the first time", span{25, 26}, []impl.Entry{a}},
		{"the last time", span{46, 47}, []impl.Entry{c}},
		{"the last time and all behind", span{46, 100000}, []impl.Entry{c}},
		{"the first time and all before", span{0, 26}, []impl.Entry{a}},
		{"one time of the second", span{30, 32}, []impl.Entry{a, b}},
		{"one time of each end", span{30, 33}, []impl.Entry{a, b, c}},
		{"within one", span{33, 46}, []impl.Entry{c}},
		{"all", span{25, 47}, []impl.Entry{a, b, c}},
		{"all times", span{0, 100000}, []impl.Entry{a, b, c}},
		{"up to the first", span{0, 25}, nil},
		{"from the last on", span{47, 100000}, nil},
		{"far behind", span{99999, 100000}, nil},
	} {
		got, code := impl.InputsOf(s, 1, x.r.from, x.r.to)
		if fmt.Sprint(got) != fmt.Sprint(x.want) || code != impl.OK {
			t.Errorf("%s: InputsOf %v = %v, code %d, want %v", x.why, x.r, got, code, x.want)
		}
	}
}

// An empty range has nothing, wherever it is: at an entry's bounds, within one, or beside all.
func TestP8EmptyRanges(t *testing.T) {
	for _, s := range ledStates() {
		for at := range 60 {
			for tier := 1; tier <= 2; tier++ {
				wantInputs(t, s, tier, span{at, at}, nil, impl.OK)
			}
			r := span{at, at}
			for tier := range 3 {
				_, code := plainCover(s, tier, r)
				wantCover(t, s, tier, r, nil, code)
			}
		}
		wantInputs(t, s, 1, span{99999, 99999}, nil, impl.OK)
		wantInputs(t, s, 2, span{100000, 100000}, nil, impl.OK)
	}
	wantCover(t, plannedState(), 0, span{40, 40}, nil, impl.OK)
	wantCover(t, plannedState(), 1, span{30, 30}, nil, impl.OK)
}

func TestP8InputsOfAllSmallRanges(t *testing.T) {
	for _, s := range []impl.State{{}, busyState(), plannedState(), crookedState()} {
		for from := range 66 {
			for to := from; to <= 66; to++ {
				for tier := 1; tier <= 2; tier++ {
					wantInputs(t, s, tier, span{from, to}, plainSpanned(s, tier-1, span{from, to}), impl.OK)
				}
			}
		}
	}
	for _, s := range ledStates() {
		for _, r := range rightSpans() {
			for tier := 1; tier <= 2; tier++ {
				if len(s.Entries) < 100 || r.to <= 20 {
					wantInputs(t, s, tier, r, plainSpanned(s, tier-1, r), impl.OK)
				}
			}
		}
	}
}

func TestP8InputsOutOfBounds(t *testing.T) {
	for _, s := range []impl.State{{}, busyState(), plannedState(), lastState(), manyState(20, 20)} {
		for _, r := range append(rightSpans(), wrongSpans()...) {
			for _, tier := range []int{0, -1, 3, 4, 1 << 32, 1<<32 + 1, -1 << 63, 1<<63 - 1} {
				wantInputs(t, s, tier, r, nil, impl.ErrRange)
			}
		}
		for _, r := range wrongSpans() {
			wantInputs(t, s, 1, r, nil, impl.ErrRange)
			wantInputs(t, s, 2, r, nil, impl.ErrRange)
		}
	}
}

// plainCover is what the document says of CoverOf.
func plainCover(s impl.State, tier int, r span) ([]impl.Entry, int) {
	if tier < 0 || tier > 2 || r.from < 0 || r.from > r.to || r.to > 100000 {
		return nil, impl.ErrRange
	}
	width := plainWidths[tier]
	switch {
	case r.from%width != 0 || r.to%width != 0:
		return nil, impl.ErrRange
	case r.from < s.Low[tier]:
		return nil, impl.ErrBelow
	case r.to > s.High[tier]:
		return nil, impl.ErrGap
	}
	return plainSpanned(s, tier, r), impl.OK
}

func TestP8CoversOfAllSmallRanges(t *testing.T) {
	for i, s := range []impl.State{{}, busyState(), plannedState(), crookedState(), twoTiers(63, 60)} {
		var told [20]int
		for from := -2; from <= 66; from++ {
			for to := -2; to <= 66; to++ {
				for tier := -1; tier <= 3; tier++ {
					r := span{from, to}
					want, wantCode := plainCover(s, tier, r)
					wantCover(t, s, tier, r, want, wantCode)
					told[wantCode]++
					if wantCode == impl.OK && from < to && !wholly(want, r) {
						t.Errorf("state %d: tier %d, %v: %v is no cover", i, tier, r, want)
					}
				}
			}
		}
		if told[impl.OK] == 0 || told[impl.ErrRange] == 0 || told[impl.ErrGap] == 0 || i > 0 && told[impl.ErrBelow] == 0 {
			t.Errorf("state %d: hardly any code is told: %v", i, told)
		}
	}
}

func TestP8CoversFromLowToHigh(t *testing.T) {
	s := plannedState()
	for _, x := range []struct {
		tier int
		r    span
		n    int
		code int
	}{
		{0, span{25, 47}, 3, 0}, {0, span{24, 47}, 0, impl.ErrBelow}, {0, span{25, 48}, 0, impl.ErrGap}, {0, span{24, 48}, 0, impl.ErrBelow},
		{1, span{20, 40}, 4, 0}, {1, span{15, 40}, 0, impl.ErrBelow}, {1, span{20, 45}, 0, impl.ErrGap}, {1, span{15, 45}, 0, impl.ErrBelow},
		{2, span{0, 20}, 1, 0}, {2, span{0, 40}, 0, impl.ErrGap}, {2, span{20, 40}, 0, impl.ErrGap},
		// Wholly before Low, and wholly behind High.
		{0, span{0, 25}, 0, impl.ErrBelow}, {1, span{0, 20}, 0, impl.ErrBelow}, {0, span{47, 48}, 0, impl.ErrGap}, {1, span{40, 45}, 0, impl.ErrGap}, {2, span{99980, 100000}, 0, impl.ErrGap},
		// Of nothing, at the bounds and beyond.
		{0, span{25, 25}, 0, 0}, {0, span{47, 47}, 0, 0}, {0, span{24, 24}, 0, impl.ErrBelow}, {0, span{48, 48}, 0, impl.ErrGap},
		{1, span{20, 20}, 0, 0}, {1, span{40, 40}, 0, 0}, {1, span{15, 15}, 0, impl.ErrBelow}, {1, span{45, 45}, 0, impl.ErrGap},
		// Not multiples, ahead of ErrBelow and ErrGap.
		{1, span{21, 40}, 0, impl.ErrRange}, {1, span{20, 39}, 0, impl.ErrRange}, {1, span{16, 40}, 0, impl.ErrRange}, {1, span{20, 41}, 0, impl.ErrRange}, {1, span{22, 22}, 0, impl.ErrRange},
		{2, span{5, 20}, 0, impl.ErrRange}, {2, span{0, 15}, 0, impl.ErrRange}, {2, span{10, 10}, 0, impl.ErrRange}, {2, span{0, 25}, 0, impl.ErrRange}, {2, span{99995, 100000}, 0, impl.ErrRange},
	} {
		if got, code := impl.CoverOf(s, x.tier, x.r.from, x.r.to); len(got) != x.n || code != x.code || code == impl.OK && x.r.from < x.r.to && !wholly(got, x.r) {
			t.Errorf("CoverOf tier %d, %v = %v, code %d, want %d entries, code %d", x.tier, x.r, got, code, x.n, x.code)
		}
	}
}

func TestP8CoversOutOfBounds(t *testing.T) {
	for _, s := range []impl.State{{}, busyState(), plannedState(), crookedState(), lastState(), manyState(20, 20)} {
		for _, r := range wrongSpans() {
			for tier := range 3 {
				wantCover(t, s, tier, r, nil, impl.ErrRange)
			}
		}
		for _, r := range rightSpans() {
			for _, tier := range []int{-1, 3, 4, 1 << 32, 1<<32 + 1, -1 << 63, 1<<63 - 1} {
				wantCover(t, s, tier, r, nil, impl.ErrRange)
			}
		}
	}
}

func TestP8CoversOfOneEntryUpToTheLastTime(t *testing.T) {
	for tier := range 3 {
		e := impl.Entry{Tier: tier, To: 100000, Key: keyed(tier, 1, 2)}
		s := impl.State{Entries: []impl.Entry{e}}
		s.High[tier] = 100000
		for _, r := range []span{{0, 100000}, {0, 20}, {99980, 100000}, {500, 520}} {
			wantCover(t, s, tier, r, []impl.Entry{e}, impl.OK)
		}
		wantCover(t, s, tier, span{100000, 100000}, nil, impl.OK)
		wantCover(t, s, tier, span{0, 100001}, nil, impl.ErrRange)
		for other := range 3 {
			if other != tier {
				wantCover(t, s, other, span{0, 0}, nil, impl.OK)
				wantCover(t, s, other, span{0, 20}, nil, impl.ErrGap)
			}
		}
	}
}

func TestP8CoversOfManyEntries(t *testing.T) {
	s := manyState(impl.MaxList, 0)
	wantCover(t, s, 0, span{0, impl.MaxList}, s.Entries, impl.OK)
	wantCover(t, s, 0, span{7, impl.MaxList - 9}, s.Entries[7:impl.MaxList-9], impl.OK)
	wantCover(t, s, 0, span{0, impl.MaxList + 1}, nil, impl.ErrGap)
	wantInputs(t, s, 1, span{0, 100000}, s.Entries, impl.OK)
	wantInputs(t, s, 1, span{4000, 4005}, s.Entries[4000:4005], impl.OK)
	wantInputs(t, s, 2, span{0, 100000}, nil, impl.OK)
}
