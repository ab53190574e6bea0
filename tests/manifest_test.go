package tests

import (
	"fmt"
	"testing"

	"loop.example/g00601/impl"
)

func TestP7TheFirstRecords(t *testing.T) {
	s := taken(t, "the first", impl.State{}, adding(0, 7, keyed(0, 1, 2)))
	want := impl.State{Seq: 1, Entries: []impl.Entry{{From: 0, To: 7, Key: "raw/000001-000002"}}, High: [3]int{7, 0, 0}}
	if !alikeStates(s, want) {
		t.Error("behind the first record", s)
	}
	s = taken(t, "a claim", s, claiming(3))
	s = taken(t, "a window", s, publishing(3, 1, 0, 5))
	s = left(t, "no whole window", s, publishing(3, 1, 5, 10))
	s = left(t, "not rolled up", s, retiring(3, s.Entries[0]))
	s = taken(t, "behind it", s, adding(7, 30, keyed(0, 6, 2)))
	for from := 5; from < 30; from += 5 {
		s = taken(t, "the next window", s, publishing(3, 1, from, from+5))
	}
	s = taken(t, "a wide window", s, publishing(3, 2, 0, 20))
	first := s.Entries[0]
	s = taken(t, "rolled up", s, retiring(3, first))
	s = taken(t, "at rest", s, purging(first.Key))
	want = impl.State{
		Seq: 14, Fence: 3, Low: [3]int{7, 0, 0}, High: [3]int{30, 30, 20},
		Entries: []impl.Entry{
			{Tier: 1, From: 0, To: 5, Key: "t1/000000-000003"}, {Tier: 0, From: 7, To: 30, Key: "raw/000006-000002"},
			{Tier: 1, From: 5, To: 10, Key: "t1/000005-000003"}, {Tier: 1, From: 10, To: 15, Key: "t1/000010-000003"},
			{Tier: 1, From: 15, To: 20, Key: "t1/000015-000003"}, {Tier: 1, From: 20, To: 25, Key: "t1/000020-000003"},
			{Tier: 1, From: 25, To: 30, Key: "t1/000025-000003"}, {Tier: 2, From: 0, To: 20, Key: "t2/000000-000003"},
		},
	}
	if !alikeStates(s, want) {
		t.Error("behind all records", s)
	}
}

func TestP7AddsBeginAtTheFrontier(t *testing.T) {
	s := busyState()
	key := keyed(0, 41, 2)
	for from := range 63 {
		left(t, "before the frontier", s, adding(from, 70, key))
		left(t, "one sample before it", s, adding(from, from+1, key))
	}
	for _, to := range []int{64, 65, 70, 99999, 100000} {
		taken(t, "at the frontier", s, adding(63, to, key))
	}
	for _, from := range []int{64, 65, 99999} {
		left(t, "behind the frontier", s, adding(from, 100000, key))
	}
	end := changed(s, func(s *impl.State) { s.Entries[5].To, s.High[0] = 99999, 99999 })
	end = taken(t, "the last time", end, adding(99999, 100000, key))
	left(t, "no time is left", end, adding(99999, 100000, keyed(0, 42, 2)))
	// What counts is High of tier 0, not where others end.
	for _, high := range []int{0, 5, 99999} {
		none := impl.State{Seq: 40, Low: [3]int{high, 45, 20}, High: [3]int{high, 45, 20}}
		taken(t, "without entries", none, adding(high, high+1, key))
		left(t, "without entries", none, adding(45, 46, key))
	}
}

func TestP7AddsHaveTheirOwnNumber(t *testing.T) {
	s := busyState()
	for _, who := range []int{0, 1, 2, 3, 41, 999999} {
		for _, n := range []int{0, 1, 20, 36, 39, 40, 42, 43, 141, 410000, 999999} {
			left(t, "another number", s, adding(63, 70, keyed(0, n, who)))
		}
		taken(t, "its own number", s, adding(63, 70, keyed(0, 41, who)))
	}
	left(t, "the first", impl.State{}, adding(0, 1, keyed(0, 0, 2)))
	taken(t, "the first", impl.State{}, adding(0, 1, keyed(0, 1, 2)))
	left(t, "the first", impl.State{}, adding(0, 1, keyed(0, 2, 2)))
	late := impl.State{Seq: lastSeq - 1}
	left(t, "the last", late, adding(0, 1, keyed(0, lastSeq-1, 2)))
	taken(t, "the last", late, adding(0, 1, keyed(0, lastSeq, 2)))
}

// Whoever asks, an add needs no token.
func TestP7AddsAreTakenWhateverIsClaimed(t *testing.T) {
	for _, fence := range []int{0, 1, 5, 999999} {
		s := changed(busyState(), func(s *impl.State) { s.Fence = fence })
		taken(t, "an add", s, adding(63, 70, keyed(0, 41, 2)))
	}
}

func TestP7ClaimsAreGreater(t *testing.T) {
	for _, fence := range []int{0, 1, 5, 12345, 999998, 999999} {
		s := changed(busyState(), func(s *impl.State) { s.Fence = fence })
		for _, token := range []int{1, 2, fence - 1, fence, fence + 1, fence + 2, 999998, 999999} {
			if token >= 1 && token <= 999999 {
				applied(t, "a claim", s, claiming(token), token > fence)
			}
		}
	}
}

func TestP7KeysThatAreThereAlready(t *testing.T) {
	key, window := keyed(0, 41, 2), keyed(1, 45, 5)
	taken(t, "a new key", busyState(), adding(63, 70, key))
	taken(t, "a new key", busyState(), publishing(5, 1, 45, 50))
	for _, seq := range []int{1, 40} {
		resting := changed(busyState(), func(s *impl.State) {
			s.Tombs = append(s.Tombs, impl.Tomb{Seq: seq, Key: key}, impl.Tomb{Seq: seq, Key: window})
		})
		left(t, "a key at rest", resting, adding(63, 70, key))
		left(t, "a key at rest", resting, publishing(5, 1, 45, 50))
		taken(t, "another writer's key", resting, adding(63, 70, keyed(0, 41, 3)))
		free := taken(t, "a key at rest", resting, purging(window))
		taken(t, "a key that rests no more", free, publishing(5, 1, 45, 50))
	}
	for at := range 6 {
		live := changed(busyState(), func(s *impl.State) { s.Entries[at].Key = keyed(s.Entries[at].Tier, 41, 2) })
		if live.Entries[at].Tier == 0 {
			left(t, "a live key", live, adding(63, 70, key))
		} else {
			taken(t, "a key of another tier", live, adding(63, 70, key))
		}
	}
	for _, at := range []int{2, 4} {
		live := changed(busyState(), func(s *impl.State) { s.Entries[at].Key = window })
		left(t, "a live key", live, publishing(5, 1, 45, 50))
	}
	// An entry that was added by another record of the same number goes, its key rests, and then goes too.
	s := taken(t, "an add", impl.State{Seq: 6, Fence: 1}, adding(0, 5, keyed(0, 7, 2)))
	s = taken(t, "its window", s, publishing(1, 1, 0, 5))
	s = taken(t, "it goes", s, retiring(1, s.Entries[0]))
	back := changed(s, func(s *impl.State) { s.Seq = 6; s.Tombs[0].Seq = 6 })
	left(t, "it rests", back, adding(5, 9, keyed(0, 7, 2)))
	gone := taken(t, "it rests no more", s, purging(keyed(0, 7, 2)))
	gone.Seq = 6
	taken(t, "it is gone", gone, adding(5, 9, keyed(0, 7, 2)))
}

func TestP7WindowsAreOfTheFencesToken(t *testing.T) {
	for _, fence := range []int{1, 2, 5, 999998, 999999} {
		s := changed(busyState(), func(s *impl.State) { s.Fence = fence })
		for _, token := range []int{1, 2, 3, 4, 5, 6, 7, 999997, 999998, 999999} {
			applied(t, "a window", s, publishing(token, 1, 45, 50), token == fence)
			// Its key must have the token too.
			r := publishing(token, 1, 45, 50)
			r.Key = keyed(1, 45, fence)
			applied(t, "a window with the fence's key", s, r, token == fence)
			r = publishing(fence, 1, 45, 50)
			r.Key = keyed(1, 45, token)
			applied(t, "a window with another key", s, r, token == fence)
		}
		r := publishing(fence, 1, 45, 50)
		r.Key = keyed(1, 45, 0)
		left(t, "a window whose key has no token", s, r)
	}
	none := changed(busyState(), func(s *impl.State) { s.Fence = 0 })
	for token := range 7 {
		if token > 0 {
			left(t, "nothing is claimed", none, publishing(token, 1, 45, 50))
		}
	}
}

func TestP7WindowsBeginAtTheFrontier(t *testing.T) {
	s := changed(busyState(), func(s *impl.State) { s.Low[0], s.Entries[1].From = 35, 35 })
	for from := 0; from <= 58; from++ {
		applied(t, "a window", s, publishing(5, 1, from, from+5), from == 45)
		r := publishing(5, 1, 45, 50)
		r.Key = keyed(1, from, 5)
		applied(t, "a window whose key begins elsewhere", s, r, from == 45)
		r = publishing(5, 1, from, from+5)
		r.Key = keyed(1, 45, 5)
		applied(t, "a window that begins elsewhere", s, r, from == 45)
	}
	wide := changed(s, func(s *impl.State) { s.Entries[4].To, s.High[1] = 70, 70 })
	for from := 0; from <= 50; from++ {
		applied(t, "a wide window", wide, publishing(5, 2, from, from+20), from == 40)
	}
}

func TestP7WindowsAreOneWide(t *testing.T) {
	s := changed(busyState(), func(s *impl.State) {
		s.Entries[5].To, s.High[0] = 200, 200
		s.Entries[4].To, s.High[1] = 100, 100
	})
	for width := 1; width <= 100; width++ {
		applied(t, "a window", s, publishing(5, 1, 100, 100+width), width == 5)
		if width <= 60 {
			applied(t, "a wide window", s, publishing(5, 2, 40, 40+width), width == 20)
		}
	}
}

// A window is rolled up of what the tier below has from Low to High, at both bounds and not beyond them.
func TestP7WindowsLieInTheTierBelow(t *testing.T) {
	for high := 46; high <= 56; high++ {
		s := changed(busyState(), func(s *impl.State) {
			s.Entries = s.Entries[:5]
			s.Entries[3].From, s.Entries[3].To, s.High[0] = 45, high, high
			s.Entries[1].To = 45
		})
		applied(t, fmt.Sprint("raw data up to ", high), s, publishing(5, 1, 45, 50), high >= 50)
	}
	for low := 39; low < 47; low++ {
		s := changed(busyState(), func(s *impl.State) { s.Low[0], s.Entries[1].From = low, low })
		applied(t, fmt.Sprint("raw data from ", low), s, publishing(5, 1, 45, 50), low <= 45)
	}
	for high := 41; high <= 80; high++ {
		s := changed(busyState(), func(s *impl.State) { s.Entries[4].To, s.High[1] = high, high })
		applied(t, fmt.Sprint("windows up to ", high), s, publishing(5, 2, 40, 60), high >= 60)
	}
	for low := 36; low < 44; low++ {
		s := changed(busyState(), func(s *impl.State) {
			s.Entries[2].From, s.Entries[2].To, s.Low[1] = low, low+1, low
			s.Entries[4].From, s.Entries[4].To, s.High[1] = low+1, 90, 90
		})
		applied(t, fmt.Sprint("windows from ", low), s, publishing(5, 2, 40, 60), low <= 40)
	}
	// Of a tier 2 window what the raw data have says nothing.
	s := changed(busyState(), func(s *impl.State) { s.Entries[4].To, s.High[1] = 60, 60; s.Low[0], s.Entries[1].From = 46, 46 })
	taken(t, "raw data that are gone", s, publishing(5, 2, 40, 60))
	gone := impl.State{Seq: 40, Fence: 5, Low: [3]int{50, 45, 20}, High: [3]int{50, 45, 20}}
	left(t, "nothing is there", gone, publishing(5, 1, 45, 50))
	left(t, "nothing is there", gone, publishing(5, 2, 20, 40))
}

func TestP7TheLastWindows(t *testing.T) {
	s := impl.State{
		Seq: 9, Fence: 5, Low: [3]int{99990, 99980, 99980}, High: [3]int{100000, 99995, 99980},
		Entries: []impl.Entry{{From: 99990, To: 100000, Key: keyed(0, 1, 2)}, {Tier: 1, From: 99980, To: 99995, Key: keyed(1, 99980, 5)}},
	}
	left(t, "not yet", s, publishing(5, 2, 99980, 100000))
	s = taken(t, "the last window", s, publishing(5, 1, 99995, 100000))
	s = taken(t, "the last wide window", s, publishing(5, 2, 99980, 100000))
	s = taken(t, "all of it goes", s, retiring(5, s.Entries[0]))
	left(t, "nothing is behind", s, adding(99999, 100000, keyed(0, s.Seq+1, 2)))
}

func TestP7TheFirstEntryOfATierGoes(t *testing.T) {
	s := changed(busyState(), func(s *impl.State) { s.Entries[4].To, s.High[1] = 63, 63; s.Entries[0].To, s.High[2] = 63, 63 })
	first := map[int]int{0: 1, 1: 2, 2: 0}
	for at, e := range s.Entries {
		applied(t, fmt.Sprint("entry ", at), s, retiring(5, e), first[e.Tier] == at)
	}
	for tier, at := range first {
		e := s.Entries[at]
		for _, other := range []impl.Entry{
			{Tier: tier, From: e.From + 1, To: e.To, Key: e.Key},
			{Tier: tier, From: e.From - 1, To: e.To, Key: e.Key},
			{Tier: tier, From: e.From, To: e.To + 1, Key: e.Key},
			{Tier: tier, From: e.From, To: e.To - 1, Key: e.Key},
			{Tier: tier, From: e.From, To: e.To, Key: keyed(tier, 1, 1)},
			{Tier: tier, From: e.From, To: e.To, Key: s.Entries[5-at].Key},
		} {
			if plainEntry(other.Tier, other.From, other.To, other.Key) {
				left(t, "another entry", s, retiring(5, other))
			}
		}
		none := impl.State{Seq: 40, Fence: 5, Low: s.High, High: s.High}
		left(t, "no entry", none, retiring(5, e))
	}
}

// Each entry of a tier goes in its turn, till there is none, and Low is High then.
func TestP7AllEntriesGoInOrder(t *testing.T) {
	s := changed(busyState(), func(s *impl.State) { s.Entries[4].To, s.High[1] = 63, 63; s.Entries[0].To, s.High[2] = 63, 63 })
	for _, tier := range []int{1, 0, 2} {
		for _, e := range copiedState(s).Entries {
			if e.Tier == tier {
				s = taken(t, "an entry goes", s, retiring(5, e))
			}
		}
	}
	if len(s.Entries) != 0 || s.Low != s.High || len(s.Tombs) != 8 || s.Seq != 46 {
		t.Error("behind all", s)
	}
	for i, tomb := range s.Tombs[2:] {
		if tomb.Seq != 41+i {
			t.Error("rests with another number", i, tomb)
		}
	}
}

// An entry stays till the tier above has all of it; of tier 2 nothing is asked.
func TestP7WhatIsNotRolledUpStays(t *testing.T) {
	for high := 41; high < 53; high++ {
		s := changed(busyState(), func(s *impl.State) { s.Entries[4].To, s.High[1] = high, high })
		applied(t, fmt.Sprint("raw data, windows up to ", high), s, retiring(5, s.Entries[1]), high >= 47)
	}
	for high := 21; high < 45; high++ {
		s := changed(busyState(), func(s *impl.State) { s.Entries[0].To, s.High[2] = high, high })
		applied(t, fmt.Sprint("a window, wide ones up to ", high), s, retiring(5, s.Entries[2]), high >= 40)
	}
	taken(t, "a wide window", busyState(), retiring(5, busyState().Entries[0]))
	alone := impl.State{Fence: 5, Entries: []impl.Entry{{Tier: 2, From: 0, To: 100000, Key: keyed(2, 0, 1)}}, High: [3]int{0, 0, 100000}}
	taken(t, "the widest entry", alone, retiring(5, alone.Entries[0]))
}

func TestP7OnlyTheFencesTokenRetires(t *testing.T) {
	for _, fence := range []int{0, 1, 2, 5, 999998, 999999} {
		s := changed(busyState(), func(s *impl.State) { s.Fence = fence })
		for _, token := range []int{1, 2, 3, 4, 5, 6, 999998, 999999} {
			applied(t, "a window", s, retiring(token, s.Entries[2]), token == fence)
			applied(t, "a wide window", s, retiring(token, s.Entries[0]), token == fence)
		}
	}
}

func TestP7OnlyWhatRestsIsPurged(t *testing.T) {
	s := busyState()
	for _, e := range s.Entries {
		left(t, "a live key", s, purging(e.Key))
	}
	for _, key := range []string{keyed(0, 11, 3), keyed(0, 12, 2), keyed(0, 41, 2), keyed(1, 11, 2), keyed(2, 30, 4), keyed(1, 45, 5), keyed(0, 0, 0)} {
		left(t, "a key that is nowhere", s, purging(key))
	}
	for _, tomb := range s.Tombs {
		x := taken(t, "what rests", s, purging(tomb.Key))
		left(t, "what rests no more", x, purging(tomb.Key))
	}
	x := taken(t, "the second", s, purging(s.Tombs[1].Key))
	x = taken(t, "the first", x, purging(s.Tombs[0].Key))
	if len(x.Tombs) != 0 || len(x.Entries) != 6 {
		t.Error("behind both", x)
	}
	left(t, "nothing rests", impl.State{}, purging(keyed(0, 1, 2)))
	// It needs no token, whatever is claimed.
	for _, fence := range []int{0, 999999} {
		taken(t, "what rests", changed(s, func(s *impl.State) { s.Fence = fence }), purging(s.Tombs[1].Key))
	}
}
