package tests

import (
	"fmt"
	"math/rand"
	"slices"
	"testing"

	"loop.example/g00601/impl"
)

// chained is a state that a chain of drawn records led to.
type chained struct {
	impl.State
	seed int
	what string
	r    *rand.Rand
}

// overChains leads states through drawn records and asks of each of them; what asks answers is the state to go on with.
func overChains(t *testing.T, seeds, steps int, ask func(c chained) impl.State) {
	t.Helper()
	var counts tally
	for seed := range seeds {
		r := rand.New(rand.NewSource(int64(8000 + seed)))
		s := []impl.State{{}, busyState(), {}, plannedState()}[seed%4]
		for step := range steps {
			s = ask(chained{s, seed, fmt.Sprintf("seed %d, step %d", seed, step), r})
			s = counts.drawnStep(t, r, s)
			if t.Failed() {
				t.FailNow()
			}
		}
	}
}

func TestP8DueWindowsOverChains(t *testing.T) {
	due := 0
	overChains(t, 16, 400, func(c chained) impl.State {
		s, what := c.State, c.what
		if wantPlans(t, what, s) {
			due++
		}
		// The log takes no window but one that is due, or will be once those of tier 1 are rolled up.
		for tier := 1; tier <= 2; tier++ {
			to := s.High[tier] + plainWidths[tier]
			if s.Fence == 0 || to > 100000 {
				continue
			}
			dueTier, _, told, _ := impl.DueWindow(s)
			if _, takes, _ := impl.ApplyRecord(s, publishing(s.Fence, tier, s.High[tier], to)); takes && (!told || dueTier > tier) {
				t.Errorf("%s: the log takes a window of tier %d, but due are %d, %v", what, tier, dueTier, told)
			}
		}
		return s
	})
	if due < 1000 {
		t.Errorf("hardly any window was due: %d", due)
	}
}

func TestP8ExpiredEntriesOverChains(t *testing.T) {
	var old [3]int
	overChains(t, 16, 300, func(c chained) impl.State {
		s, r, what := c.State, c.r, c.what
		nows := []int{0, lastNow, r.Intn(1000)}
		for tier, keep := range []int{40, 100, 400} {
			if e, found := plainFirst(s, tier); found {
				nows = append(nows, e.To+keep-1, e.To+keep, e.To+keep+1)
			}
		}
		for _, now := range nows {
			want, found := plainExpired(s, now)
			wantExpired(t, what, s, now, want, found, impl.OK)
			if found && s.Fence > 0 {
				old[want.Tier]++
				if _, takes, code := impl.ApplyRecord(s, retiring(s.Fence, want)); !takes || code != impl.OK {
					t.Errorf("%s: the log does not retire %v: code %d", what, want, code)
				}
			}
		}
		return s
	})
	if slices.Min(old[:]) < 5 {
		t.Errorf("hardly any entry was old: %v", old)
	}
}

func TestP8CoversOverChains(t *testing.T) {
	var told [20]int
	overChains(t, 12, 200, func(c chained) impl.State {
		s, r, what := c.State, c.r, c.what
		for tier, width := range plainWidths {
			from := s.Low[tier] + (r.Intn(5)-1)*width
			x := span{from, max(from, s.High[tier]+(r.Intn(5)-3)*width)}
			if r.Intn(4) == 0 {
				x = span{s.Low[tier], s.High[tier]}
			}
			want, code := plainCover(s, tier, x)
			wantCover(t, s, tier, x, want, code)
			if code == impl.OK && x.from < x.to && !wholly(want, x) {
				t.Errorf("%s: tier %d, %v: %v is no cover", what, tier, x, want)
			}
			told[code]++
			if tier > 0 {
				y := span{max(x.from, 0), max(x.to, 0)}
				wantInputs(t, s, tier, y, plainSpanned(s, tier-1, y), impl.OK)
			}
		}
		return s
	})
	for _, code := range []int{impl.OK, impl.ErrRange, impl.ErrBelow, impl.ErrGap} {
		if told[code] < 50 {
			t.Errorf("hardly any code %d was told: %v", code, told)
		}
	}
}

// What is an orphan once is one for good: no record names it, whatever comes, those that try to among them.
func TestP8OrphansStayOrphans(t *testing.T) {
	var past [12][]string
	overChains(t, len(past), 150, func(c chained) impl.State {
		s, r, what, told := c.State, c.r, c.what, &past[c.seed]
		keys := keysAround(s)
		orphans := plainOrphans(s, keys)
		wantOrphans(t, what, s, keys, orphans, impl.OK)
		untaken(t, what, s, orphans)
		for _, key := range orphans {
			if !slices.Contains(*told, key) {
				*told = append(*told, key)
			}
		}
		wantOrphans(t, what+", all told ahead", s, *told, *told, impl.OK)
		if len(*told) == 0 || r.Intn(3) > 0 {
			return s
		}
		list := naming(s, (*told)[r.Intn(len(*told))])
		return left(t, what, s, list[r.Intn(len(list))])
	})
	for seed, told := range past {
		if len(told) < 100 {
			t.Errorf("seed %d: hardly any orphan: %d", seed, len(told))
		}
	}
}

// What is neither an orphan nor named may still come: raw data under their own number, and a window of the last token or a later one.
func TestP8WhatIsNoOrphanMayStillCome(t *testing.T) {
	came := 0
	overChains(t, 8, 200, func(c chained) impl.State {
		s, r, what := c.State, c.r, c.what
		var keys []string
		var next []impl.Record
		for d := 1; d <= 3; d++ {
			keys = append(keys, keyed(0, s.Seq+d, 2))
			next = append(next, adding(s.High[0], s.High[0]+1, keys[d-1]))
		}
		wantOrphans(t, what, s, keys, nil, impl.OK)
		x := s
		for d := range 1 + r.Intn(3) {
			x.Seq = s.Seq + d
			came++
			taken(t, what, x, next[d])
		}
		if tier, window, due := plainDue(s); due {
			for _, token := range []int{s.Fence, s.Fence + 1, s.Fence + 7} {
				y := s
				if token > s.Fence {
					y = taken(t, what, s, claiming(token))
				}
				r := publishing(token, tier, window.from, window.to)
				wantOrphans(t, what, s, []string{r.Key}, nil, impl.OK)
				if token > 0 && !plainThere(s, r.Key) {
					came++
					taken(t, what, y, r)
				}
			}
		}
		return s
	})
	if came < 2000 {
		t.Errorf("hardly anything came: %d", came)
	}
}
