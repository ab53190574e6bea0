package tests

import (
	"fmt"
	"slices"
	"strings"
	"testing"

	"loop.example/g00601/impl"
)

var (
	junkEntry = impl.Entry{Tier: -7, From: -7, To: -7, Key: "junk"}
	junkTomb  = impl.Tomb{Seq: -7, Key: "junk"}
)

// fillState writes junk over both lists of a state, up to the ends of their memory.
func fillState(s impl.State) {
	for i := range s.Entries[:cap(s.Entries)] {
		s.Entries[:cap(s.Entries)][i] = junkEntry
	}
	for i := range s.Tombs[:cap(s.Tombs)] {
		s.Tombs[:cap(s.Tombs)][i] = junkTomb
	}
}

// guardedState is a state in memory of its own, with junk behind the ends of its lists.
func guardedState(s impl.State) impl.State {
	g := s
	g.Entries = make([]impl.Entry, len(s.Entries), len(s.Entries)+spare)
	g.Tombs = make([]impl.Tomb, len(s.Tombs), len(s.Tombs)+spare)
	fillState(g)
	copy(g.Entries, s.Entries)
	copy(g.Tombs, s.Tombs)
	return g
}

// untouchedState tells whether a guarded state of s is as it was made, behind the ends too.
func untouchedState(g, s impl.State) bool {
	want := guardedState(s)
	return alikeStates(g, s) && slices.Equal(g.Entries[:cap(g.Entries)], want.Entries[:cap(want.Entries)]) && slices.Equal(g.Tombs[:cap(g.Tombs)], want.Tombs[:cap(want.Tombs)])
}

func pureStates() []impl.State {
	late := changed(busyState(), func(s *impl.State) { s.Seq = lastSeq })
	twice := changed(busyState(), func(s *impl.State) { s.Tombs[0].Key = s.Tombs[1].Key })
	return []impl.State{{}, busyState(), late, twice, manyState(20, 20), manyState(impl.MaxList, 0), manyState(impl.MaxList, 1), {Seq: -1 << 63, Fence: 1<<63 - 1, Entries: []impl.Entry{junkEntry}, Tombs: []impl.Tomb{junkTomb}, Low: [3]int{-1 << 63}}}
}

// pureRecords are taken by some of these states, left by others, and some are none.
func pureRecords() []impl.Record {
	return []impl.Record{
		adding(63, 70, keyed(0, 41, 2)), adding(0, 5, keyed(0, 1, 2)), adding(20, 25, keyed(0, 10001, 2)), claiming(1), claiming(6), publishing(5, 1, 45, 50),
		retiring(5, busyState().Entries[0]), retiring(5, busyState().Entries[2]), retiring(5, busyState().Entries[1]), purging(keyed(0, 11, 2)), purging(keyed(1, 30, 4)), purging(keyed(0, 5000, 3)), purging(keyed(0, 1, 2)),
		{}, {Kind: -1 << 63, Token: 1<<63 - 1, Tier: -1 << 63, From: 1<<63 - 1, To: -1 << 63, Key: text(impl.MaxText + 1)},
	}
}

func stateSaid(s impl.State, r impl.Record) (impl.State, string) {
	x, takes, code := impl.ApplyRecord(s, r)
	return x, fmt.Sprint(x, takes, code, impl.StateOK(s), impl.SameState(s, s), impl.SameState(s, x))
}

func TestP1NoRecordChangesItsState(t *testing.T) {
	for i, s := range pureStates() {
		for _, r := range pureRecords() {
			g := guardedState(s)
			x, said := stateSaid(g, r)
			if !untouchedState(g, s) {
				t.Errorf("%.100s changes state %d", fmt.Sprint(r), i)
			}
			// Nor does what is done to the answer, nor the other way round.
			before := fmt.Sprint(x)
			fillState(g)
			if fmt.Sprint(x) != before {
				t.Errorf("%.100s of state %d answers its argument's memory", fmt.Sprint(r), i)
			}
			g = guardedState(s)
			y, again := stateSaid(g, r)
			fillState(y)
			if !untouchedState(g, s) || again != said {
				t.Errorf("%.100s of state %d lends its argument's memory", fmt.Sprint(r), i)
			}
		}
	}
}

func TestP1AlikeRecordsHaveAlikeAnswers(t *testing.T) {
	for i, s := range pureStates() {
		var first []string
		for _, r := range pureRecords() {
			_, said := stateSaid(s, r)
			first = append(first, said)
		}
		// Backwards, so that each call has others ahead of it, and with another capacity.
		for k, r := range slices.Backward(pureRecords()) {
			if _, said := stateSaid(guardedState(s), r); said != first[k] {
				t.Errorf("record %d of state %d hangs on what was called ahead", k, i)
			}
		}
	}
	for _, r := range pureRecords() {
		_, none := stateSaid(impl.State{}, r)
		_, empty := stateSaid(impl.State{Entries: []impl.Entry{}, Tombs: []impl.Tomb{}}, r)
		if none != empty {
			t.Errorf("%.100s: %s of nil, %s of empty lists", fmt.Sprint(r), none, empty)
		}
	}
}

// Two records of one state each lead to a state of their own.
func TestP1StatesOfTwoRecordsStayApart(t *testing.T) {
	s := guardedState(busyState())
	a := taken(t, "one writer", s, adding(63, 70, keyed(0, 41, 2)))
	b := taken(t, "another writer", s, adding(63, 80, keyed(0, 41, 3)))
	c := taken(t, "what goes", s, retiring(5, s.Entries[0]))
	if a.Entries[6].Key != keyed(0, 41, 2) || b.Entries[6].Key != keyed(0, 41, 3) || c.Entries[4].Key != keyed(0, 36, 2) || !untouchedState(s, busyState()) {
		t.Error("they share memory", a.Entries, b.Entries, c.Entries)
	}
}

// logCalls are all calls on a store's log, with arguments that lead to each of their codes.
func logCalls() []storeCall {
	calls := []storeCall{{"ReplayLog", func(x impl.Store) given {
		s, code := impl.ReplayLog(x)
		return given{rest: fmt.Sprint(s, code)}
	}}}
	for _, seq := range []int{0, 1, 5, 11, 300, 999999, 1000000, -1 << 63, 1<<63 - 1} {
		for i, r := range pureRecords() {
			calls = append(calls, storeCall{fmt.Sprintf("AppendRecord of record %d as %d", i, seq), func(x impl.Store) given {
				y, code := impl.AppendRecord(x, seq, r)
				return given{store: y, rest: fmt.Sprint(code)}
			}})
		}
	}
	return calls
}

func pureLogs() []impl.Store {
	late := logged(mixedStore(), shortLog()...)
	late.Next = lastNext
	return append(pureStores(), late, logged(mixedStore(), shortLog()...), logged(numberedStore(impl.MaxObjects-10), shortLog()...), logged(impl.NewStore(), "what", "2,7,0,0,0 "))
}

func TestP1NoLogChangesItsStore(t *testing.T) {
	for i, x := range pureLogs() {
		for _, c := range logCalls() {
			g := guarded(x)
			got := c.do(g)
			if !untouched(g, x) {
				t.Errorf("%s changes store %d", c.name, i)
			}
			fill(got.store.Objects[:cap(got.store.Objects)])
			if !untouched(g, x) {
				t.Errorf("%s of store %d lends its argument's memory", c.name, i)
			}
		}
	}
}

func TestP1AlikeStoresHaveAlikeLogs(t *testing.T) {
	for i, x := range pureLogs() {
		var first []string
		calls := logCalls()
		for _, c := range calls {
			first = append(first, c.do(x).text())
		}
		for k, c := range slices.Backward(calls) {
			if got := c.do(guarded(x)).text(); got != first[k] {
				t.Errorf("%s of store %d hangs on what was called ahead", c.name, i)
			}
		}
	}
}

// Two states of one log share nothing, nor do the lists of one.
func TestP1ReplayedStatesStayApart(t *testing.T) {
	x := logged(mixedStore(), shortLog()[:6]...)
	a, _ := impl.ReplayLog(x)
	b, _ := impl.ReplayLog(x)
	before := fmt.Sprint(b)
	fillState(a)
	if fmt.Sprint(b) != before || before != fmt.Sprint(plainLog(shortLog()[:6])) {
		t.Error("they share memory", b)
	}
}

func TestP1AlikeTextsAreAlikeRecords(t *testing.T) {
	said := func(text string) string {
		r, code := impl.ReadRecord(text)
		back, backCode := impl.RecordText(r)
		return fmt.Sprintln(r, code, impl.RecordOK(r), back, backCode)
	}
	texts := append(append(noRecords(), shortLog()...), text(impl.MaxText), text(impl.MaxText+1))
	var first []string
	for _, text := range texts {
		first = append(first, said(text))
	}
	for i, text := range slices.Backward(texts) {
		if got := said(strings.Clone(text)); got != first[i] {
			t.Errorf("%.60q has two answers: %s, %s", text, first[i], got)
		}
	}
}
