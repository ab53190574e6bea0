package tests

import (
	"fmt"
	"slices"
	"strconv"
	"testing"

	"loop.example/g00601/impl"
)

const lastSeq = 999999

// keyed is a data key, written without the program.
func keyed(tier, n, who int) string {
	return fmt.Sprintf("%s/%06d-%06d", [...]string{"raw", "t1", "t2"}[tier], n, who)
}

func adding(from, to int, key string) impl.Record {
	return impl.Record{Kind: 1, From: from, To: to, Key: key}
}

func claiming(token int) impl.Record { return impl.Record{Kind: 2, Token: token} }

// publishing has the key that such a record needs.
func publishing(token, tier, from, to int) impl.Record {
	return impl.Record{Kind: 3, Token: token, Tier: tier, From: from, To: to, Key: keyed(tier, from, token)}
}

func retiring(token int, e impl.Entry) impl.Record {
	return impl.Record{Kind: 4, Token: token, Tier: e.Tier, From: e.From, To: e.To, Key: e.Key}
}

func purging(key string) impl.Record { return impl.Record{Kind: 5, Key: key} }

func recordWritten(r impl.Record) string {
	return fmt.Sprintf("%d,%d,%d,%d,%d %s", r.Kind, r.Token, r.Tier, r.From, r.To, r.Key)
}

// busyState has entries of all tiers, mixed, some that went, and two that rest.
func busyState() impl.State {
	return impl.State{
		Seq: 40, Fence: 5,
		Entries: []impl.Entry{
			{Tier: 2, From: 20, To: 40, Key: keyed(2, 20, 3)},
			{Tier: 0, From: 40, To: 47, Key: keyed(0, 20, 2)},
			{Tier: 1, From: 35, To: 40, Key: keyed(1, 35, 4)},
			{Tier: 0, From: 47, To: 60, Key: keyed(0, 27, 3)},
			{Tier: 1, From: 40, To: 45, Key: keyed(1, 40, 5)},
			{Tier: 0, From: 60, To: 63, Key: keyed(0, 36, 2)},
		},
		Tombs: []impl.Tomb{{Seq: 30, Key: keyed(0, 11, 2)}, {Seq: 33, Key: keyed(1, 30, 4)}},
		Low:   [3]int{40, 35, 20},
		High:  [3]int{63, 45, 40},
	}
}

// manyState is right and has that many entries, of tier 0, and that many that rest.
func manyState(entries, tombs int) impl.State {
	s := impl.State{Seq: 10000}
	for i := range entries {
		s.Entries = append(s.Entries, impl.Entry{From: i, To: i + 1, Key: keyed(0, i+1, 2)})
	}
	for i := range tombs {
		s.Tombs = append(s.Tombs, impl.Tomb{Seq: i + 1, Key: keyed(0, i+5000, 3)})
	}
	s.High[0] = entries
	return s
}

func copiedState(s impl.State) impl.State {
	s.Entries, s.Tombs = slices.Clone(s.Entries), slices.Clone(s.Tombs)
	return s
}

// changed is a copy of s with something done to it.
func changed(s impl.State, change func(s *impl.State)) impl.State {
	x := copiedState(s)
	change(&x)
	return x
}

// alikeStates is what SameState ought to tell, and does not lean on it.
func alikeStates(a, b impl.State) bool {
	return a.Seq == b.Seq && a.Fence == b.Fence && a.Low == b.Low && a.High == b.High &&
		slices.Equal(a.Entries, b.Entries) && slices.Equal(a.Tombs, b.Tombs)
}

// keyNumbers are what a data key says, and whether it is one.
func keyNumbers(key string) (tier, n, who int, ok bool) {
	found := keyForm.FindStringSubmatch(key)
	if found == nil {
		return 0, 0, 0, false
	}
	n, _ = strconv.Atoi(found[2])
	who, _ = strconv.Atoi(found[3])
	return slices.Index([]string{"raw", "t1", "t2"}, found[1]), n, who, true
}

func plainEntry(tier, from, to int, key string) bool {
	of, _, _, ok := keyNumbers(key)
	return ok && of == tier && 0 <= from && from < to && to <= 100000
}

// plainRecord is what the document says of records.
func plainRecord(r impl.Record) bool {
	token := 1 <= r.Token && r.Token <= 999999
	entry := plainEntry(r.Tier, r.From, r.To, r.Key)
	switch r.Kind {
	case 1:
		return r.Token == 0 && r.Tier == 0 && entry
	case 2:
		return token && r.Tier == 0 && r.From == 0 && r.To == 0 && r.Key == ""
	case 3:
		return token && (r.Tier == 1 || r.Tier == 2) && entry
	case 4:
		return token && entry
	case 5:
		return r.Token == 0 && r.Tier == 0 && r.From == 0 && r.To == 0 && keyForm.MatchString(r.Key)
	}
	return false
}

// plainFault is what is wrong with a state that records led to, in words; none is the empty text.
func plainFault(s impl.State) string {
	seen := map[string]bool{}
	for tier := range 3 {
		at := s.Low[tier]
		for _, e := range s.Entries {
			switch {
			case e.Tier < 0 || e.Tier > 2:
				return fmt.Sprint("no tier: ", e)
			case e.Tier != tier:
			case e.From != at || e.To <= e.From || seen[e.Key] || !plainEntry(tier, e.From, e.To, e.Key):
				return fmt.Sprintf("entry %v at %d", e, at)
			default:
				at, seen[e.Key] = e.To, true
			}
		}
		if at != s.High[tier] {
			return fmt.Sprintf("tier %d ends at %d, not at %d", tier, at, s.High[tier])
		}
	}
	for _, tomb := range s.Tombs {
		if tomb.Seq < 1 || tomb.Seq > s.Seq || seen[tomb.Key] {
			return fmt.Sprint("what rests: ", tomb)
		}
		seen[tomb.Key] = true
	}
	return ""
}

func plainThere(s impl.State, key string) bool {
	return slices.ContainsFunc(s.Entries, func(e impl.Entry) bool { return e.Key == key }) || plainRests(s, key)
}

func plainRests(s impl.State, key string) bool {
	return slices.ContainsFunc(s.Tombs, func(tomb impl.Tomb) bool { return tomb.Key == key })
}

// plainTakes is what the document says of a right record and a right state.
func plainTakes(s impl.State, r impl.Record) bool {
	_, n, who, _ := keyNumbers(r.Key)
	switch r.Kind {
	case 1:
		return r.From == s.High[0] && n == s.Seq+1 && !plainThere(s, r.Key)
	case 2:
		return r.Token > s.Fence
	case 3:
		width := map[int]int{1: 5, 2: 20}[r.Tier]
		return r.Token == s.Fence && r.From == s.High[r.Tier] && n == r.From && who == r.Token && r.From+width == r.To &&
			!(r.To > s.High[r.Tier-1]) && !(r.From < s.Low[r.Tier-1]) && !plainThere(s, r.Key)
	case 4:
		for _, e := range s.Entries {
			if e.Tier == r.Tier {
				above := r.Tier == 2 || r.To <= s.High[r.Tier+1]
				return e.From == r.From && e.To == r.To && e.Key == r.Key && r.Token == s.Fence && above
			}
		}
		return false
	}
	return plainRests(s, r.Key)
}

// plainDone is the state behind a record that was taken.
func plainDone(s impl.State, r impl.Record) impl.State {
	x := impl.State{Seq: s.Seq + 1, Fence: s.Fence, Low: s.Low, High: s.High}
	for _, e := range s.Entries {
		if r.Kind != 4 || e.Key != r.Key {
			x.Entries = append(x.Entries, e)
		}
	}
	for _, tomb := range s.Tombs {
		if r.Kind != 5 || tomb.Key != r.Key {
			x.Tombs = append(x.Tombs, tomb)
		}
	}
	switch r.Kind {
	case 1, 3:
		x.Entries = append(x.Entries, impl.Entry{Tier: r.Tier, From: r.From, To: r.To, Key: r.Key})
		x.High[r.Tier] = r.To
	case 2:
		x.Fence = r.Token
	case 4:
		x.Tombs = append(x.Tombs, impl.Tomb{Seq: x.Seq, Key: r.Key})
		x.Low[r.Tier] = r.To
	}
	return x
}

// applied checks that a record is taken or not, that all is as it ought to be behind it, and answers that state.
func applied(t *testing.T, what string, s impl.State, r impl.Record, taken bool) impl.State {
	t.Helper()
	want := copiedState(s)
	want.Seq++
	if taken {
		want = plainDone(s, r)
	}
	x, got, code := impl.ApplyRecord(s, r)
	if got != taken || code != impl.OK || !alikeStates(x, want) {
		t.Errorf("%s: %v: taken %v, code %d, state %.300s, want taken %v, state %.300s", what, r, got, code, fmt.Sprint(x), taken, fmt.Sprint(want))
	}
	if fault := plainFault(x); fault != "" || !impl.StateOK(x) {
		t.Errorf("%s: %v: state is right: %v, fault %s", what, r, impl.StateOK(x), fault)
	}
	return x
}

func taken(t *testing.T, what string, s impl.State, r impl.Record) impl.State {
	t.Helper()
	return applied(t, what, s, r, true)
}

func left(t *testing.T, what string, s impl.State, r impl.Record) impl.State {
	t.Helper()
	return applied(t, what, s, r, false)
}

// refusedRecord checks that a record leads to a code, to that state, and is not taken.
func refusedRecord(t *testing.T, what string, s impl.State, r impl.Record, want int, state impl.State) {
	t.Helper()
	x, got, code := impl.ApplyRecord(s, r)
	if got || code != want || !alikeStates(x, state) {
		t.Errorf("%s: %.200s: taken %v, code %d, want code %d; state as wanted: %v", what, fmt.Sprint(r), got, code, want, alikeStates(x, state))
	}
}
