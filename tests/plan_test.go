package tests

import (
	"fmt"
	"slices"
	"testing"

	"loop.example/g00601/impl"
)

func TestP8ThePlansOfOneState(t *testing.T) {
	s := plannedState()
	if tier, from, due, code := impl.DueWindow(s); tier != 1 || from != 40 || !due || code != impl.OK {
		t.Error("DueWindow", tier, from, due, code)
	}
	wantInputs(t, s, 1, span{40, 45}, []impl.Entry{{From: 32, To: 47, Key: "raw/000019-000002"}}, impl.OK)
	wantInputs(t, s, 2, span{20, 40}, []impl.Entry{
		{Tier: 1, From: 20, To: 25, Key: "t1/000020-000003"}, {Tier: 1, From: 25, To: 30, Key: "t1/000025-000003"},
		{Tier: 1, From: 30, To: 35, Key: "t1/000030-000004"}, {Tier: 1, From: 35, To: 40, Key: "t1/000035-000004"},
	}, impl.OK)
	wantExpired(t, "raw data", s, 71, impl.Entry{From: 25, To: 31, Key: "raw/000012-000002"}, true, impl.OK)
	keys := []string{"lease", "raw/000009-000003", "raw/000012-000002", "raw/000030-000002", "raw/000031-000002", "t1/000020-000003", "t1/000040-000003", "t1/000040-000004"}
	wantOrphans(t, "keys", s, keys, []string{"raw/000030-000002", "t1/000040-000003"}, impl.OK)
	wantCover(t, s, 0, span{30, 32}, []impl.Entry{{From: 25, To: 31, Key: "raw/000012-000002"}, {From: 31, To: 32, Key: "raw/000014-000003"}}, impl.OK)
	wantCover(t, s, 2, span{0, 20}, []impl.Entry{{Tier: 2, From: 0, To: 20, Key: "t2/000000-000002"}}, impl.OK)
}

func TestP8WindowsThatAreDueHaveTheirInputs(t *testing.T) {
	due := 0
	for i, s := range ledStates() {
		if wantPlans(t, fmt.Sprint("state ", i), s) {
			due++
		}
	}
	if due < 5 {
		t.Errorf("hardly any window is due: %d", due)
	}
}

func TestP8NothingIsDue(t *testing.T) {
	for i, s := range []impl.State{
		{}, {Seq: lastSeq, Fence: 999999}, {Entries: []impl.Entry{}, Tombs: []impl.Tomb{}},
		{High: [3]int{4, 0, 0}, Entries: []impl.Entry{{To: 4, Key: keyed(0, 1, 2)}}},
		{Low: [3]int{100000, 100000, 100000}, High: [3]int{100000, 100000, 100000}},
		// A tier that is ahead of the one below.
		{Low: [3]int{5, 50, 90}, High: [3]int{5, 50, 90}},
		// Raw data are not what tier 2 is made of.
		{High: [3]int{99, 95, 80}, Low: [3]int{95, 80, 80}, Entries: []impl.Entry{{From: 95, To: 99, Key: keyed(0, 1, 2)}, {Tier: 1, From: 80, To: 95, Key: keyed(1, 80, 1)}}},
	} {
		if tier, from, due, code := impl.DueWindow(s); tier != 0 || from != 0 || due || code != impl.OK {
			t.Errorf("state %d: DueWindow = %d, %d, %v, code %d", i, tier, from, due, code)
		}
	}
}

// twoTiers has raw data up to one time and windows up to another, and wide ones up to 20.
func twoTiers(raw, windows int) impl.State {
	s := impl.State{Seq: 3, Fence: 1, Low: [3]int{0, 20, 0}, High: [3]int{raw, windows, 20}}
	s.Entries = append(s.Entries, impl.Entry{Tier: 2, To: 20, Key: keyed(2, 0, 1)})
	if windows > 20 {
		s.Entries = append(s.Entries, impl.Entry{Tier: 1, From: 20, To: windows, Key: keyed(1, 20, 1)})
	}
	return withEntry(s, impl.Entry{To: raw, Key: keyed(0, 1, 2)})
}

func withEntry(s impl.State, e impl.Entry) impl.State {
	s.Entries = append(s.Entries, e)
	return s
}

func TestP8TierOneIsAheadOfTierTwo(t *testing.T) {
	for raw := 20; raw <= 80; raw++ {
		for windows := 20; windows <= 80; windows++ {
			s := twoTiers(raw, windows)
			tier, from, due := 0, 0, false
			switch {
			case raw-windows >= 5:
				tier, from, due = 1, windows, true
			case windows >= 40:
				tier, from, due = 2, 20, true
			}
			gotTier, gotFrom, got, code := impl.DueWindow(s)
			if gotTier != tier || gotFrom != from || got != due || code != impl.OK {
				t.Errorf("raw data up to %d, windows up to %d: DueWindow = %d, %d, %v, code %d, want %d, %d, %v", raw, windows, gotTier, gotFrom, got, code, tier, from, due)
			}
			wantPlans(t, "two tiers", s)
		}
	}
}

// A window is due that ends at High of the tier below, and none that ends one behind it.
func TestP8WindowsThatEndAtTheFrontierBelow(t *testing.T) {
	for _, high := range []int{0, 5, 40, 41, 99990, 99995} {
		for width := 1; width <= 12; width++ {
			s := impl.State{Low: [3]int{high, high, high}, High: [3]int{min(high+width, 100000), high, high}}
			if s.Low[0] < s.High[0] {
				s.Entries = []impl.Entry{{From: s.Low[0], To: s.High[0], Key: keyed(0, 1, 2)}}
			}
			wantDue := s.High[0]-high >= 5
			if tier, from, due, code := impl.DueWindow(s); due != wantDue || due && (tier != 1 || from != high) || !due && tier+from != 0 || code != impl.OK {
				t.Errorf("raw data up to %d behind %d: DueWindow = %d, %d, %v, code %d", s.High[0], high, tier, from, due, code)
			}
			wantPlans(t, "at the frontier", s)
		}
	}
	for _, high := range []int{0, 20, 41, 99980} {
		for width := 1; width <= 30; width++ {
			end := min(high+width, 100000)
			s := impl.State{Low: [3]int{end, high, high}, High: [3]int{end, end, high}}
			s.Entries = []impl.Entry{{Tier: 1, From: high, To: end, Key: keyed(1, 1, 2)}}
			wantDue := end-high >= 20
			if tier, from, due, code := impl.DueWindow(s); due != wantDue || due && (tier != 2 || from != high) || !due && tier+from != 0 || code != impl.OK {
				t.Errorf("windows up to %d behind %d: DueWindow = %d, %d, %v, code %d", end, high, tier, from, due, code)
			}
			wantPlans(t, "at the frontier", s)
		}
	}
}

func TestP8WindowsAtTheLastTimes(t *testing.T) {
	s := lastState()
	for _, want := range []struct{ tier, from, to int }{{1, 99995, 100000}, {2, 99980, 100000}} {
		if tier, from, due, code := impl.DueWindow(s); tier != want.tier || from != want.from || !due || code != impl.OK {
			t.Errorf("DueWindow = %d, %d, %v, code %d, want %v", tier, from, due, code, want)
		}
		wantPlans(t, "at the last times", s)
		s = taken(t, "the last window", s, publishing(5, want.tier, want.from, want.to))
	}
	if wantPlans(t, "all is rolled up", s) {
		t.Error("nothing is left", s)
	}
	// No window goes on behind the last time, however near it begins.
	for high := 99996; high <= 100000; high++ {
		for _, x := range []impl.State{
			{Low: [3]int{0, high, high}, High: [3]int{100000, high, high}, Entries: []impl.Entry{{To: 100000, Key: keyed(0, 1, 2)}}},
			{Low: [3]int{100000, 0, high - 15}, High: [3]int{100000, 100000, high - 15}, Entries: []impl.Entry{{Tier: 1, To: 100000, Key: keyed(1, 0, 2)}}},
		} {
			if tier, from, due, code := impl.DueWindow(x); tier != 0 || from != 0 || due || code != impl.OK {
				t.Errorf("from %d on: DueWindow = %d, %d, %v, code %d", high, tier, from, due, code)
			}
		}
	}
}

// Windows are due one after the other, from High on, till there is no whole one.
func TestP8WindowsAreDueInOrder(t *testing.T) {
	s := taken(t, "raw data", impl.State{}, adding(0, 3, keyed(0, 1, 2)))
	s = taken(t, "raw data", s, adding(3, 47, keyed(0, 2, 2)))
	s = taken(t, "a claim", s, claiming(6))
	var told []string
	for wantPlans(t, "in order", s) {
		tier, from, _, _ := impl.DueWindow(s)
		told = append(told, fmt.Sprint(tier, " ", from))
		s = taken(t, "what is due", s, publishing(6, tier, from, from+plainWidths[tier]))
	}
	want := []string{"1 0", "1 5", "1 10", "1 15", "1 20", "1 25", "1 30", "1 35", "1 40", "2 0", "2 20"}
	if !slices.Equal(told, want) || s.High != [3]int{47, 45, 40} {
		t.Errorf("due are %v, want %v; up to %v", told, want, s.High)
	}
}

func TestP8PlansOfStatesThatAreNotRight(t *testing.T) {
	keys := []string{keyed(0, 1, 2), keyed(1, 5, 1)}
	for _, w := range wrongStates() {
		if tier, from, due, code := impl.DueWindow(w.state); tier != 0 || from != 0 || due || code != impl.ErrBad {
			t.Errorf("%s: DueWindow = %d, %d, %v, code %d", w.why, tier, from, due, code)
		}
		// ErrBad is ahead of ErrRange, ErrBelow and ErrGap.
		for _, r := range []span{{0, 20}, {40, 60}, {20, 20}, {7, 9}, {-1, 5}, {5, 4}, {99980, 100000}, {0, 100001}} {
			for _, tier := range []int{-1, 0, 1, 2, 3} {
				wantInputs(t, w.state, tier, r, nil, impl.ErrBad)
				wantCover(t, w.state, tier, r, nil, impl.ErrBad)
			}
		}
		for _, now := range []int{0, 500, lastNow, -1, lastNow + 1, -1 << 63, 1<<63 - 1} {
			wantExpired(t, w.why, w.state, now, impl.Entry{}, false, impl.ErrBad)
		}
		wantOrphans(t, w.why, w.state, keys, nil, impl.ErrBad)
		wantOrphans(t, w.why, w.state, nil, nil, impl.ErrBad)
	}
}
