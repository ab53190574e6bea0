package tests

import (
	"fmt"
	"slices"
	"strings"
	"testing"

	"loop.example/g00601/impl"
)

func TestP8WhatIsNoDataKeyIsNoOrphan(t *testing.T) {
	s := changed(plannedState(), func(s *impl.State) { s.Seq, s.Fence = lastSeq, 999999 })
	none := []string{
		"", " ", "lease", "man/000001", "pin/4", "raw", "raw/", "raw/000001", "raw/000001-", "raw/1-2", "raw/000001-00002", "raw/000001-0000002", "raw/000001-000002 ", " raw/000001-000002", "raw/000001-000002\n", "raw/000001-000002-", "raw/-00001-000002",
		"RAW/000001-000002", "t0/000001-000002", "t3/000001-000002", "t1/000001", "t2/000001-00000x", "t1-000001-000002", "t1/000001/000002", "xt1/000001-000002", "\x00", "raw/000001\x00000002", keyed(0, 1, 2) + keyed(0, 1, 3),
		// A text of a list has no bound but what a data key has.
		text(impl.MaxText), text(impl.MaxText + 1), keyed(0, 1, 2) + text(impl.MaxText), strings.Repeat("0", 5*impl.MaxText),
	}
	wantOrphans(t, "no data keys", s, none, nil, impl.OK)
	for _, key := range none {
		wantOrphans(t, "no data key", s, []string{key}, nil, impl.OK)
		wantOrphans(t, "one behind it", s, []string{key, keyed(0, 1, 2)}, []string{keyed(0, 1, 2)}, impl.OK)
	}
	for _, whole := range []string{keyed(0, 1, 2), keyed(1, 5, 1), keyed(2, 20, 4)} {
		neighbours(whole, func(key string) {
			wantOrphans(t, "one byte off", s, []string{key}, plainOrphans(s, []string{key}), impl.OK)
		})
	}
}

func TestP8WhatIsLiveOrRestsIsNoOrphan(t *testing.T) {
	for i, s := range rightStates() {
		// All that are named are old enough to be orphans else.
		s.Seq, s.Fence = lastSeq, 999999
		var keys []string
		for _, e := range s.Entries {
			keys = append(keys, e.Key)
		}
		for _, tomb := range s.Tombs {
			keys = append(keys, tomb.Key)
		}
		what := fmt.Sprint("state ", i)
		wantOrphans(t, what, s, keys, nil, impl.OK)
		if len(keys) > 100 || len(keys) == 0 {
			continue
		}
		// Once nothing names them they are orphans, but those of a token that may still publish.
		bare := impl.State{Seq: lastSeq, Fence: 999999}
		wantOrphans(t, what, bare, keys, plainOrphans(bare, keys), impl.OK)
		// Each is named by one place alone.
		for at := range s.Tombs {
			x := changed(s, func(s *impl.State) { s.Tombs = slices.Delete(s.Tombs, at, at+1) })
			wantOrphans(t, what, x, keys, []string{s.Tombs[at].Key}, impl.OK)
		}
	}
	s := plannedState()
	wantOrphans(t, "named ones", s, []string{keyed(0, 12, 2), keyed(1, 20, 3), keyed(2, 0, 2), keyed(0, 9, 3), keyed(1, 15, 3)}, nil, impl.OK)
	// One number off, and nothing has them.
	others := []string{keyed(0, 12, 3), keyed(0, 13, 2), keyed(1, 20, 2), keyed(1, 21, 3), keyed(2, 0, 3), keyed(2, 20, 2), keyed(0, 9, 2), keyed(1, 15, 2), keyed(1, 0, 2), keyed(2, 20, 3)}
	wantOrphans(t, "others beside them", s, others, others, impl.OK)
}

// A raw key is an orphan up to the number Seq, whoever wrote it; the next record may still add one more.
func TestP8RawOrphansUpToSeq(t *testing.T) {
	for _, seq := range []int{0, 1, 2, 30, 41, 99999, 999998, lastSeq} {
		for _, fence := range []int{0, 1, 4, 999999} {
			s := impl.State{Seq: seq, Fence: fence}
			for _, n := range []int{0, seq - 1, seq, seq + 1, seq + 2, 999999} {
				for _, who := range []int{0, 2, 3, seq, 999999} {
					if n < 0 || n > 999999 {
						continue
					}
					var want []string
					if n <= seq {
						want = []string{keyed(0, n, who)}
					}
					wantOrphans(t, "raw data", s, []string{keyed(0, n, who)}, want, impl.OK)
				}
			}
		}
	}
}

// A window's key is an orphan below the token Fence, wherever it begins; that token may still publish, and so may all behind it.
func TestP8WindowOrphansBelowFence(t *testing.T) {
	for _, fence := range []int{0, 1, 2, 4, 5, 99999, 999998, 999999} {
		for _, seq := range []int{0, 1, 30, lastSeq} {
			s := impl.State{Seq: seq, Fence: fence}
			for _, token := range []int{0, fence - 1, fence, fence + 1, fence + 2, 999999} {
				for _, n := range []int{0, 1, 5, 20, seq, 100000, 999999} {
					for tier := 1; tier <= 2; tier++ {
						if token < 0 || token > 999999 {
							continue
						}
						var want []string
						if token < fence {
							want = []string{keyed(tier, n, token)}
						}
						wantOrphans(t, "windows", s, []string{keyed(tier, n, token)}, want, impl.OK)
					}
				}
			}
		}
	}
}

// Orphans are told in the order of the list, and a key that is told twice is told twice.
func TestP8OrphansInTheOrderOfTheList(t *testing.T) {
	s := plannedState()
	a, b, c, live, late := keyed(2, 40, 1), keyed(0, 3, 2), keyed(1, 0, 0), keyed(0, 12, 2), keyed(0, 31, 2)
	for _, x := range []struct{ keys, want []string }{
		{nil, nil}, {[]string{}, nil}, {[]string{a}, []string{a}}, {[]string{a, b, c}, []string{a, b, c}}, {[]string{c, b, a}, []string{c, b, a}}, {[]string{b, a, c}, []string{b, a, c}},
		{[]string{a, a}, []string{a, a}}, {[]string{a, b, a, b, b}, []string{a, b, a, b, b}},
		{[]string{live, live}, nil}, {[]string{late, late}, nil}, {[]string{a, live, late, a, live, c, late}, []string{a, a, c}},
	} {
		wantOrphans(t, "in order", s, x.keys, x.want, impl.OK)
	}
}

// manyKeys are n data keys, all of them different.
func manyKeys(n int) []string {
	keys := make([]string, n)
	for i := range keys {
		keys[i] = keyed(i%3, i, i%4)
	}
	return keys
}

func TestP8ListsOfManyKeys(t *testing.T) {
	states := append(ledStates(), changed(plannedState(), func(s *impl.State) { s.Seq, s.Fence = lastSeq, 999999 }))
	for i, s := range states {
		for _, keys := range [][]string{manyKeys(impl.MaxList - 1), manyKeys(impl.MaxList), slices.Repeat([]string{keyed(0, 0, 1)}, impl.MaxList), slices.Repeat([]string{"lease"}, impl.MaxList)} {
			wantOrphans(t, fmt.Sprint("state ", i), s, keys, plainOrphans(s, keys), impl.OK)
		}
		for _, keys := range [][]string{manyKeys(impl.MaxList + 1), slices.Repeat([]string{""}, impl.MaxList+1), make([]string, 2*impl.MaxList)} {
			wantOrphans(t, fmt.Sprint("state ", i), s, keys, nil, impl.ErrLong)
		}
	}
	all := slices.Repeat([]string{keyed(0, 1, 2), keyed(1, 1, 2)}, impl.MaxList/2)
	wantOrphans(t, "all of them", impl.State{Seq: 1, Fence: 3}, all, all, impl.OK)
	// ErrLong is ahead of ErrBad.
	for _, w := range wrongStates() {
		wantOrphans(t, w.why, w.state, make([]string, impl.MaxList+1), nil, impl.ErrLong)
		wantOrphans(t, w.why, w.state, make([]string, impl.MaxList), nil, impl.ErrBad)
	}
}

// keysAround are data keys of all tiers near the bounds of a state, with those that it names.
func keysAround(s impl.State) []string {
	var keys []string
	add := func(tier, n, who int) {
		if 0 <= n && n <= 999999 && 0 <= who && who <= 999999 {
			keys = append(keys, keyed(tier, n, who))
		}
	}
	for d := -2; d <= 2; d++ {
		for who := 2; who <= 3; who++ {
			add(0, s.Seq+d, who)
		}
		for tier := 1; tier <= 2; tier++ {
			for _, n := range []int{0, s.Low[tier], s.High[tier], s.High[tier] + 5, s.High[tier] + 20} {
				add(tier, n, s.Fence+d)
			}
		}
	}
	for _, e := range s.Entries {
		keys = append(keys, e.Key)
	}
	for _, tomb := range s.Tombs {
		keys = append(keys, tomb.Key)
	}
	return keys
}

// No record that the log takes names an orphan; and keys that are none, and not named, some record may still bring in.
func TestP8NoRecordNamesAnOrphan(t *testing.T) {
	states := append(ledStates(), twoTiers(63, 60), twoTiers(66, 60), changed(plannedState(), func(s *impl.State) { s.Seq = lastSeq - 1 }), changed(plannedState(), func(s *impl.State) { s.Fence = 999998 }))
	for i, s := range states {
		if len(s.Entries)+len(s.Tombs) > 100 {
			continue
		}
		keys := keysAround(s)
		what := fmt.Sprint("state ", i)
		wantOrphans(t, what, s, keys, plainOrphans(s, keys), impl.OK)
		untaken(t, what, s, plainOrphans(s, keys))
	}
	s := plannedState()
	for _, r := range []impl.Record{adding(47, 50, keyed(0, 31, 2)), publishing(4, 1, 40, 45), publishing(4, 2, 20, 40)} {
		wantOrphans(t, "what is still to come", s, []string{r.Key}, nil, impl.OK)
		x := taken(t, "what is still to come", s, r)
		wantOrphans(t, "what is there", x, []string{r.Key}, nil, impl.OK)
	}
	s = taken(t, "a claim", s, claiming(5))
	wantOrphans(t, "behind a claim", s, []string{keyed(1, 40, 4), keyed(2, 20, 4), keyed(1, 40, 5)}, []string{keyed(1, 40, 4), keyed(2, 20, 4)}, impl.OK)
	untaken(t, "behind a claim", s, []string{keyed(1, 40, 4), keyed(2, 20, 4)})
}

// What rested is an orphan once it is purged, if its object is still there.
func TestP8WhatIsPurgedIsAnOrphan(t *testing.T) {
	s := plannedState()
	for _, tomb := range s.Tombs {
		wantOrphans(t, "at rest", s, []string{tomb.Key}, nil, impl.OK)
		x := taken(t, "purged", s, purging(tomb.Key))
		wantOrphans(t, "purged", x, []string{tomb.Key}, []string{tomb.Key}, impl.OK)
		untaken(t, "purged", x, []string{tomb.Key})
	}
	// A window of the last token is none, though it was there: its number alone says that it comes no more.
	x := taken(t, "goes", changed(s, func(s *impl.State) { s.Fence, s.High[2] = 3, 40; s.Entries[0].To = 40 }), retiring(3, s.Entries[2]))
	x = taken(t, "purged", x, purging(keyed(1, 20, 3)))
	wantOrphans(t, "of the last token", x, []string{keyed(1, 20, 3)}, nil, impl.OK)
	x = taken(t, "a claim", x, claiming(4))
	wantOrphans(t, "of an older token", x, []string{keyed(1, 20, 3)}, []string{keyed(1, 20, 3)}, impl.OK)
}
