package tests

import (
	"fmt"
	"testing"

	"loop.example/g00601/impl"
)

// agedState has one entry of a tier, up to a time, and the tier above is empty and ends at another one.
func agedState(tier, to, above int) impl.State {
	s := impl.State{Entries: []impl.Entry{{Tier: tier, From: to - 1, To: to, Key: keyed(tier, 1, 2)}}}
	s.Low[tier], s.High[tier] = to-1, to
	if tier < 2 {
		s.Low[tier+1], s.High[tier+1] = above, above
	}
	return s
}

// An entry is kept up to a time, and not at the next one.
func TestP8EntriesAreKeptForATime(t *testing.T) {
	for tier, keep := range []int{40, 100, 400} {
		for _, to := range []int{1, 5, 20, 1000, 99999, 100000} {
			s := agedState(tier, to, to)
			e := s.Entries[0]
			for _, now := range []int{0, to, to + keep - 2, to + keep - 1} {
				wantExpired(t, "kept", s, now, impl.Entry{}, false, impl.OK)
			}
			for _, now := range []int{to + keep, to + keep + 1, to + keep + 500, lastNow - 1, lastNow} {
				if now <= lastNow {
					wantExpired(t, "old", s, now, e, true, impl.OK)
				}
			}
		}
	}
}

// However old, an entry stays till the tier above has all of it; of tier 2 nothing is asked.
func TestP8OldEntriesThatAreNotRolledUp(t *testing.T) {
	for tier := range 2 {
		for _, to := range []int{1, 20, 1000, 100000} {
			for _, above := range []int{0, to - 2, to - 1, to, to + 1, 100000} {
				if above < 0 || above > 100000 {
					continue
				}
				s := agedState(tier, to, above)
				want, found := impl.Entry{}, false
				if above >= to {
					want, found = s.Entries[0], true
				}
				wantExpired(t, fmt.Sprint("the tier above up to ", above), s, lastNow, want, found, impl.OK)
			}
		}
	}
	alone := agedState(2, 100000, 0)
	wantExpired(t, "a wide window", alone, 100400, alone.Entries[0], true, impl.OK)
}

// agedTiers have a first entry each, at ends of their own, and tiers 1 and 2 go on up to a time.
func agedTiers(raw, windows, wide int) impl.State {
	return impl.State{
		Entries: []impl.Entry{
			{Tier: 2, From: 10, To: 20, Key: keyed(2, 1, 1)},
			{Tier: 2, From: 20, To: wide, Key: keyed(2, 2, 1)},
			{Tier: 1, From: 20, To: 25, Key: keyed(1, 1, 1)},
			{Tier: 1, From: 25, To: windows, Key: keyed(1, 2, 1)},
			{Tier: 0, From: 24, To: raw, Key: keyed(0, 1, 1)},
			{Tier: 0, From: raw, To: raw + 9, Key: keyed(0, 2, 1)},
		},
		Low:  [3]int{24, 20, 10},
		High: [3]int{raw + 9, windows, wide},
	}
}

// The first tier counts whose first entry may go: those whose first one stays are passed over, because it is kept or not rolled up.
func TestP8TheFirstTierWithAnOldEntry(t *testing.T) {
	for _, x := range []struct {
		why                 string
		raw, windows, wide  int
		oldRaw, old, oldest int
	}{
		{"raw data are old ahead of all", 31, 40, 40, 71, 125, 420},
		{"raw data go with the first window", 85, 85, 25, 125, 125, 420},
		{"raw data go behind the first window", 100, 100, 40, 140, 125, 420},
		{"raw data that are not rolled up", 50, 49, 40, 1 << 30, 125, 420},
		{"windows that are not rolled up", 100, 100, 24, 140, 1 << 30, 420},
		{"neither is rolled up", 50, 49, 24, 1 << 30, 1 << 30, 420},
		{"raw data go behind all others", 700, 700, 24, 740, 1 << 30, 420},
	} {
		s := agedTiers(x.raw, x.windows, x.wide)
		for now := range 800 {
			want, found := impl.Entry{}, true
			switch {
			case now >= x.oldRaw:
				want = s.Entries[4]
			case now >= x.old:
				want = s.Entries[2]
			case now >= x.oldest:
				want = s.Entries[0]
			default:
				found = false
			}
			wantExpired(t, x.why, s, now, want, found, impl.OK)
		}
	}
}

// Of a tier the first entry alone is asked, whatever follows it.
func TestP8OnlyTheFirstEntryOfATier(t *testing.T) {
	s := busyState()
	for now := range 600 {
		want, found := plainExpired(s, now)
		wantExpired(t, "a busy state", s, now, want, found, impl.OK)
	}
	// The first one is not rolled up, as it ends one behind the tier above.
	behind := changed(s, func(s *impl.State) { s.Entries[1].To, s.Entries[3].From = 46, 46 })
	wantExpired(t, "one behind", behind, 86, impl.Entry{}, false, impl.OK)
	at := changed(s, func(s *impl.State) { s.Entries[1].To, s.Entries[3].From = 45, 45 })
	wantExpired(t, "just rolled up", at, 84, impl.Entry{}, false, impl.OK)
	wantExpired(t, "just rolled up", at, 85, at.Entries[1], true, impl.OK)
}

func TestP8NothingIsOldWithoutEntries(t *testing.T) {
	for _, s := range []impl.State{
		{}, {Seq: lastSeq, Fence: 999999}, {Low: [3]int{5, 5, 5}, High: [3]int{5, 5, 5}}, {Low: [3]int{100000, 100000, 100000}, High: [3]int{100000, 100000, 100000}}, manyState(0, 40),
	} {
		for _, now := range []int{0, 1, 39, 40, 41, 45, 100, 105, 400, 405, 100000, 100400, lastNow} {
			wantExpired(t, "no entry", s, now, impl.Entry{}, false, impl.OK)
		}
	}
}

func TestP8TheBoundsOfNow(t *testing.T) {
	for _, s := range ledStates() {
		for _, now := range []int{0, 1, 100000, 100001, lastNow - 1, lastNow} {
			want, found := plainExpired(s, now)
			wantExpired(t, "within its bounds", s, now, want, found, impl.OK)
		}
		for _, now := range wrongNows() {
			wantExpired(t, "out of bounds", s, now, impl.Entry{}, false, impl.ErrRange)
		}
	}
}
