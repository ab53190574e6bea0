package tests

import (
	"fmt"
	"math/rand"
	"slices"
	"testing"

	"loop.example/g00601/impl"
)

// hopeful are records that the log is likely to take next, of each kind and tier.
func hopeful(r *rand.Rand, s impl.State) []impl.Record {
	end := min(s.High[0]+1+r.Intn(14), impl.MaxTime)
	list := []impl.Record{
		adding(s.High[0], end, keyed(0, s.Seq+1, 2+r.Intn(2))),
		adding(s.High[0], end, keyed(0, s.Seq+1, 2)),
		publishing(max(s.Fence, 1), 1, s.High[1], s.High[1]+5),
		publishing(max(s.Fence, 1), 1, s.High[1], s.High[1]+5),
		publishing(max(s.Fence, 1), 2, s.High[2], s.High[2]+20),
	}
	if r.Intn(2) == 0 {
		list = append(list, claiming(max(s.Fence+r.Intn(6)-2, 1)))
	}
	for tier := range 3 {
		at := slices.IndexFunc(s.Entries, func(e impl.Entry) bool { return e.Tier == tier })
		if at >= 0 {
			list = append(list, retiring(max(s.Fence, 1), s.Entries[at]))
		}
	}
	for _, tomb := range s.Tombs[:min(len(s.Tombs), 2)] {
		list = append(list, purging(tomb.Key))
	}
	return list
}

// somewhatOff changes one thing of a record, so that it may be none any more.
func somewhatOff(r *rand.Rand, s impl.State, rec impl.Record) impl.Record {
	near := r.Intn(5) - 2
	switch r.Intn(8) {
	case 0:
		rec.Token += near
	case 1:
		rec.From += near
	case 2:
		rec.To += near
	case 3:
		rec.Tier += near
	case 4:
		rec.Kind += near
	case 5:
		rec.From, rec.To = rec.From+5*near, rec.To+5*near
	case 6:
		if tier, n, who, ok := keyNumbers(rec.Key); ok {
			rec.Key = keyed(tier, max(n+near, 0), max(who+r.Intn(3)-1, 0))
		}
	default:
		if len(s.Entries) > 0 {
			rec.Key = s.Entries[r.Intn(len(s.Entries))].Key
		}
	}
	return rec
}

// tally counts, by kind, what was taken and what was not.
type tally struct{ taken, left [6]int }

// drawnStep applies a drawn record and answers the state behind it; a record that is none leads nowhere.
func (c *tally) drawnStep(t *testing.T, r *rand.Rand, s impl.State) impl.State {
	t.Helper()
	list := hopeful(r, s)
	rec := list[r.Intn(len(list))]
	if r.Intn(3) == 0 {
		rec = somewhatOff(r, s, rec)
	}
	if impl.RecordOK(rec) != plainRecord(rec) {
		t.Errorf("RecordOK(%v) = %v", rec, impl.RecordOK(rec))
	}
	if !plainRecord(rec) {
		refusedRecord(t, "no record", s, rec, impl.ErrBad, impl.State{})
		return s
	}
	takes := plainTakes(s, rec)
	if takes {
		c.taken[rec.Kind]++
	} else {
		c.left[rec.Kind]++
	}
	return applied(t, "a drawn record", s, rec, takes)
}

func TestP7DrawnChains(t *testing.T) {
	var c tally
	for seed := range 20 {
		r := rand.New(rand.NewSource(int64(seed)))
		s := impl.State{}
		if seed%4 == 3 {
			s = busyState()
		}
		for range 600 {
			s = c.drawnStep(t, r, s)
			if t.Failed() {
				t.Fatalf("seed %d, behind record %d", seed, s.Seq)
			}
		}
		if s.High[2] < 100 || s.Low[1] < 20 {
			t.Errorf("seed %d: hardly anything was rolled up: %v, %v", seed, s.Low, s.High)
		}
	}
	for kind := 1; kind <= 5; kind++ {
		if c.taken[kind] < 50 || c.left[kind] < 50 {
			t.Errorf("kind %d: %d were taken, %d were not", kind, c.taken[kind], c.left[kind])
		}
	}
}

// Whatever record comes, of all that can be told with a few numbers and keys.
func TestP7AllSmallRecords(t *testing.T) {
	states := []impl.State{
		{}, busyState(),
		{Seq: 1, Fence: 1, Entries: []impl.Entry{{From: 0, To: 5, Key: keyed(0, 1, 2)}}, High: [3]int{5, 0, 0}},
		{Seq: 1, Fence: 2, Entries: []impl.Entry{{From: 0, To: 25, Key: keyed(0, 1, 2)}, {Tier: 1, From: 0, To: 20, Key: keyed(1, 0, 1)}}, High: [3]int{25, 20, 0}},
		{Seq: 1, Fence: 1, Tombs: []impl.Tomb{{Seq: 1, Key: keyed(1, 0, 1)}, {Seq: 1, Key: keyed(0, 2, 2)}}, Low: [3]int{5, 5, 5}, High: [3]int{5, 5, 5}},
	}
	keys := []string{"", "lease", keyed(0, 1, 2), keyed(0, 2, 2), keyed(1, 0, 1), keyed(1, 0, 2), keyed(1, 5, 1), keyed(1, 20, 2), keyed(2, 0, 1), keyed(2, 0, 2)}
	times := []int{-1, 0, 1, 5, 6, 20, 25}
	for i, s := range states {
		for kind := range 7 {
			for token := range 4 {
				for tier := -1; tier <= 3; tier++ {
					for _, key := range keys {
						for _, from := range times {
							for _, to := range times {
								r := impl.Record{Kind: kind, Token: token, Tier: tier, From: from, To: to, Key: key}
								smallRecord(t, i, s, r)
							}
						}
					}
				}
			}
		}
	}
}

func smallRecord(t *testing.T, i int, s impl.State, r impl.Record) {
	t.Helper()
	if !plainRecord(r) {
		if impl.RecordOK(r) {
			t.Errorf("%v is no record", r)
		}
		return
	}
	applied(t, fmt.Sprint("state ", i), s, r, plainTakes(s, r))
}

// fencedBy are records that are right in all but their token, for a state whose fence is greater than that.
func fencedBy(s impl.State, token int) []impl.Record {
	var list []impl.Record
	for _, fence := range []int{token, s.Fence} {
		for tier := 1; tier <= 2; tier++ {
			window := publishing(token, tier, s.High[tier], s.High[tier]+[]int{1, 5, 20}[tier])
			window.Key = keyed(tier, s.High[tier], fence)
			list = append(list, window)
		}
	}
	for _, e := range s.Entries {
		list = append(list, retiring(token, e))
	}
	return append(list, claiming(token))
}

// Behind a claim nothing is taken of an older token, whatever it says.
func TestP7Fences(t *testing.T) {
	ready := changed(busyState(), func(s *impl.State) { s.Entries[4].To, s.High[1] = 60, 60; s.Entries[5].To, s.High[0] = 99, 99 })
	taken(t, "a window ahead of the claim", ready, publishing(5, 1, 60, 65))
	taken(t, "a wide window ahead of the claim", ready, publishing(5, 2, 40, 60))
	taken(t, "what goes ahead of the claim", ready, retiring(5, ready.Entries[2]))
	for _, claim := range []int{6, 7, 20, 999999} {
		s := taken(t, "the claim", ready, claiming(claim))
		for _, token := range []int{1, 2, 4, 5, claim - 1} {
			for _, r := range fencedBy(s, token) {
				left(t, fmt.Sprint("behind a claim of ", claim), s, r)
			}
		}
		taken(t, "a window of the claim's", s, publishing(claim, 1, 60, 65))
		taken(t, "a wide window of the claim's", s, publishing(claim, 2, 40, 60))
		taken(t, "the claim's retires", s, retiring(claim, s.Entries[2]))
	}
}

// Two that write one after the other: from the second's claim on all of the first's is left, whenever it comes.
func TestP7FencesOverChains(t *testing.T) {
	for seed := range 30 {
		r := rand.New(rand.NewSource(int64(1000 + seed)))
		s := impl.State{}
		var c tally
		claimed := 0
		for step := range 200 {
			if step%40 == 0 {
				s = taken(t, "a claim", s, claiming(s.Fence+1+r.Intn(3)))
			}
			for _, token := range []int{1, claimed / 2, claimed - 1} {
				if token < 1 || token >= claimed {
					continue
				}
				old := fencedBy(s, token)
				s = left(t, "an older token", s, old[r.Intn(len(old))])
			}
			s = c.drawnStep(t, r, s)
			if s.Fence < claimed {
				t.Fatalf("seed %d: the fence is %d behind a claim of %d", seed, s.Fence, claimed)
			}
			claimed = s.Fence
		}
		if t.Failed() {
			t.Fatalf("seed %d, claimed %d", seed, claimed)
		}
	}
}

// A record that is not taken counts all the same, so that all who write know which number is next.
func TestP7RecordsCountWhetherTakenOrNot(t *testing.T) {
	s := impl.State{}
	for i := range 100 {
		s = left(t, "what never rests", s, purging(keyed(0, i, 2)))
		s = left(t, "never claimed", s, publishing(1, 1, 0, 5))
	}
	if !alikeStates(s, impl.State{Seq: 200}) {
		t.Error("behind all", s)
	}
	left(t, "an older number", s, adding(0, 5, keyed(0, 1, 2)))
	taken(t, "its own number", s, adding(0, 5, keyed(0, 201, 2)))
}
