package tests

import (
	"fmt"
	"slices"
	"testing"

	"loop.example/g00601/impl"
)

// plannedState has a window of each tier that is due, and no two tiers that end at one time.
func plannedState() impl.State {
	return impl.State{
		Seq: 30, Fence: 4,
		Entries: []impl.Entry{
			{Tier: 2, From: 0, To: 20, Key: keyed(2, 0, 2)},
			{Tier: 0, From: 25, To: 31, Key: keyed(0, 12, 2)},
			{Tier: 1, From: 20, To: 25, Key: keyed(1, 20, 3)},
			{Tier: 1, From: 25, To: 30, Key: keyed(1, 25, 3)},
			{Tier: 0, From: 31, To: 32, Key: keyed(0, 14, 3)},
			{Tier: 0, From: 32, To: 47, Key: keyed(0, 19, 2)},
			{Tier: 1, From: 30, To: 35, Key: keyed(1, 30, 4)},
			{Tier: 1, From: 35, To: 40, Key: keyed(1, 35, 4)},
		},
		Tombs: []impl.Tomb{{Seq: 28, Key: keyed(0, 9, 3)}, {Seq: 29, Key: keyed(1, 15, 3)}},
		Low:   [3]int{25, 20, 0},
		High:  [3]int{47, 40, 20},
	}
}

// crookedState is right, but its windows are neither whole nor begin at multiples of their width.
func crookedState() impl.State {
	return impl.State{
		Seq: 7, Fence: 2,
		Entries: []impl.Entry{
			{Tier: 1, From: 3, To: 4, Key: keyed(1, 999999, 0)},
			{Tier: 1, From: 4, To: 17, Key: keyed(1, 0, 9)},
			{Tier: 0, From: 16, To: 23, Key: keyed(0, 999999, 9)},
			{Tier: 1, From: 17, To: 29, Key: keyed(1, 1, 1)},
			{Tier: 2, From: 1, To: 8, Key: keyed(2, 5, 5)},
		},
		Low:  [3]int{16, 3, 1},
		High: [3]int{23, 29, 8},
	}
}

// lastState is at the end of all times, where a window of each tier is left.
func lastState() impl.State {
	return impl.State{
		Seq: 9, Fence: 5, Low: [3]int{99990, 99980, 99980}, High: [3]int{100000, 99995, 99980},
		Entries: []impl.Entry{{From: 99990, To: 100000, Key: keyed(0, 1, 2)}, {Tier: 1, From: 99980, To: 99995, Key: keyed(1, 99980, 5)}},
	}
}

// ledStates are states as records lead to them: what a tier has let go, the tier above has.
func ledStates() []impl.State {
	var list []impl.State
	for _, s := range append(rightStates(), plannedState(), crookedState(), lastState()) {
		if s.Low[0] <= s.High[1] && s.Low[1] <= s.High[2] {
			list = append(list, s)
		}
	}
	return list
}

func plainFirst(s impl.State, tier int) (impl.Entry, bool) {
	for _, e := range s.Entries {
		if e.Tier == tier {
			return e, true
		}
	}
	return impl.Entry{}, false
}

// plainSpanned are the tier's entries that have something of a range, looked for time by time.
func plainSpanned(s impl.State, tier int, r span) []impl.Entry {
	var list []impl.Entry
	for _, e := range s.Entries {
		for at := e.From; at < e.To && e.Tier == tier; at++ {
			if r.has(at) {
				list = append(list, e)
				break
			}
		}
	}
	return list
}

// wholly tells whether entries lie side by side over the whole of a range, each of them with something of it.
func wholly(list []impl.Entry, r span) bool {
	at := r.from
	for i, e := range list {
		if e.From > at || e.To <= at || i > 0 && e.From != at || at >= r.to {
			return false
		}
		at = e.To
	}
	return at >= r.to
}

// plainWidths are how wide the windows of each tier are.
var plainWidths = [3]int{1, 5, 20}

// plainDue is the first window from High on that the tier below has all of, and whether there is one.
func plainDue(s impl.State) (tier int, window span, due bool) {
	for tier := 1; tier <= 2; tier++ {
		window := span{s.High[tier], s.High[tier] + plainWidths[tier]}
		if wholly(plainSpanned(s, tier-1, window), window) {
			return tier, window, true
		}
	}
	return 0, span{}, false
}

// wantPlans checks which window is due, that it has its inputs, and that the log takes just it; it answers whether there is one.
func wantPlans(t *testing.T, what string, s impl.State) bool {
	t.Helper()
	tier, window, due := plainDue(s)
	gotTier, from, got, code := impl.DueWindow(s)
	if gotTier != tier || from != window.from || got != due || code != impl.OK {
		t.Errorf("%s: DueWindow = %d, %d, %v, code %d, want %d, %v, %v; state %.300s", what, gotTier, from, got, code, tier, window, due, fmt.Sprint(s))
	}
	if !due {
		return false
	}
	inputs, code := impl.InputsOf(s, gotTier, from, window.to)
	if code != impl.OK || !wholly(inputs, window) || !slices.Equal(inputs, plainSpanned(s, tier-1, window)) {
		t.Errorf("%s: inputs of %d, %v: %v, code %d; state %.300s", what, tier, window, inputs, code, fmt.Sprint(s))
	}
	r := publishing(max(s.Fence, 1), tier, from, window.to)
	if _, takes, code := impl.ApplyRecord(s, r); code == impl.OK && s.Fence > 0 && !plainThere(s, r.Key) && !takes {
		t.Errorf("%s: the log does not take the window that is due: %v; state %.300s", what, r, fmt.Sprint(s))
	}
	return true
}

func wantInputs(t *testing.T, s impl.State, tier int, r span, want []impl.Entry, wantCode int) {
	t.Helper()
	if got, code := impl.InputsOf(s, tier, r.from, r.to); !slices.Equal(got, want) || code != wantCode {
		t.Errorf("InputsOf tier %d, %v = %v, code %d, want %v, code %d; state %.300s", tier, r, got, code, want, wantCode, fmt.Sprint(s))
	}
}

func wantCover(t *testing.T, s impl.State, tier int, r span, want []impl.Entry, wantCode int) {
	t.Helper()
	if got, code := impl.CoverOf(s, tier, r.from, r.to); !slices.Equal(got, want) || code != wantCode {
		t.Errorf("CoverOf tier %d, %v = %v, code %d, want %v, code %d; state %.300s", tier, r, got, code, want, wantCode, fmt.Sprint(s))
	}
}

// plainExpired is the entry that is to go at a time, if the document says of one that it is.
func plainExpired(s impl.State, now int) (impl.Entry, bool) {
	for tier, keep := range []int{40, 100, 400} {
		e, found := plainFirst(s, tier)
		above := tier == 2 || e.To <= s.High[tier+1]
		if found && e.To+keep <= now && above {
			return e, true
		}
	}
	return impl.Entry{}, false
}

func wantExpired(t *testing.T, what string, s impl.State, now int, want impl.Entry, wantFound bool, wantCode int) {
	t.Helper()
	if got, found, code := impl.ExpiredEntry(s, now); got != want || found != wantFound || code != wantCode {
		t.Errorf("%s: ExpiredEntry at %d = %v, %v, code %d, want %v, %v, code %d; state %.300s", what, now, got, found, code, want, wantFound, wantCode, fmt.Sprint(s))
	}
}

// plainOrphans are those of keys that the document calls orphans.
func plainOrphans(s impl.State, keys []string) []string {
	var list []string
	for _, key := range keys {
		tier, n, who, ok := keyNumbers(key)
		past := tier == 0 && n <= s.Seq || tier > 0 && who < s.Fence
		if ok && past && !plainThere(s, key) {
			list = append(list, key)
		}
	}
	return list
}

func wantOrphans(t *testing.T, what string, s impl.State, keys, want []string, wantCode int) {
	t.Helper()
	if got, code := impl.OrphansOf(s, keys); !slices.Equal(got, want) || code != wantCode {
		t.Errorf("%s: OrphansOf %.200s = %.200s, code %d, want %.200s, code %d; state %.300s", what, fmt.Sprint(keys), fmt.Sprint(got), code, fmt.Sprint(want), wantCode, fmt.Sprint(s))
	}
}

// naming are records of all kinds that name a key, as likely to be taken at a state as such ones can be.
func naming(s impl.State, key string) []impl.Record {
	tier, n, who, ok := keyNumbers(key)
	if !ok {
		return nil
	}
	list := []impl.Record{purging(key), adding(s.High[0], s.High[0]+1, key)}
	for _, token := range []int{who, s.Fence, s.Fence + 1} {
		width := plainWidths[tier]
		for _, from := range []int{n, s.High[tier]} {
			r := publishing(token, tier, from, from+width)
			r.Key = key
			list = append(list, r)
		}
		if first, found := plainFirst(s, tier); found {
			first.Key = key
			list = append(list, retiring(token, first))
		}
	}
	return slices.DeleteFunc(list, func(r impl.Record) bool { return !plainRecord(r) })
}

// untaken checks that the log takes no record that names one of these keys.
func untaken(t *testing.T, what string, s impl.State, keys []string) {
	t.Helper()
	for _, key := range keys {
		for _, r := range naming(s, key) {
			if _, takes, code := impl.ApplyRecord(s, r); takes || code != impl.OK && code != impl.ErrFull {
				t.Errorf("%s: %v names an orphan: taken %v, code %d; state %.300s", what, r, takes, code, fmt.Sprint(s))
			}
		}
	}
}
