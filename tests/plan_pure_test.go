package tests

import (
	"fmt"
	"slices"
	"testing"

	"loop.example/g00601/impl"
)

// planSaid is all that one call of a plan answers.
type planSaid struct {
	entries []impl.Entry
	keys    []string
	rest    string
}

func (p planSaid) text() string { return fmt.Sprintf("%v %q %s", p.entries, p.keys, p.rest) }

type planCall struct {
	name string
	do   func(s impl.State) planSaid
}

func pureKeys() [][]string {
	return [][]string{
		{keyed(0, 11, 2), keyed(0, 3, 2), "lease", keyed(1, 0, 1), keyed(0, 3, 2), keyed(2, 20, 999999)},
		slices.Repeat([]string{keyed(0, 0, 0), "what"}, 6), {""}, {}, make([]string, impl.MaxList+1), {text(impl.MaxText + 1), keyed(0, 0, 1)},
	}
}

// planCalls are all calls of plans, with arguments that lead to each of their codes.
func planCalls() []planCall {
	const least, most = -1 << 63, 1<<63 - 1
	calls := []planCall{{"DueWindow", func(s impl.State) planSaid {
		tier, from, due, code := impl.DueWindow(s)
		return planSaid{rest: fmt.Sprint(tier, from, due, code)}
	}}}
	for _, now := range []int{0, 87, 500, lastNow, lastNow + 1, -1, least, most} {
		calls = append(calls, planCall{fmt.Sprint("ExpiredEntry at ", now), func(s impl.State) planSaid {
			e, found, code := impl.ExpiredEntry(s, now)
			return planSaid{rest: fmt.Sprint(e, found, code)}
		}})
	}
	for _, tier := range []int{0, 1, 2, 3, -1, least, most, most - 1} {
		for _, r := range append(wrongSpans(), span{0, 0}, span{40, 60}, span{40, 45}, span{45, 50}, span{20, 40}, span{0, 20}, span{0, 100000}, span{most - 1, most}, span{least, least + 1}) {
			calls = append(calls, planCall{fmt.Sprintf("InputsOf tier %d, %v", tier, r), func(s impl.State) planSaid {
				list, code := impl.InputsOf(s, tier, r.from, r.to)
				return planSaid{entries: list, rest: fmt.Sprint(code)}
			}}, planCall{fmt.Sprintf("CoverOf tier %d, %v", tier, r), func(s impl.State) planSaid {
				list, code := impl.CoverOf(s, tier, r.from, r.to)
				return planSaid{entries: list, rest: fmt.Sprint(code)}
			}})
		}
	}
	for i, keys := range pureKeys() {
		calls = append(calls, planCall{fmt.Sprint("OrphansOf list ", i), func(s impl.State) planSaid {
			list, code := impl.OrphansOf(s, keys)
			return planSaid{keys: list, rest: fmt.Sprint(code)}
		}})
	}
	return calls
}

func purePlanStates() []impl.State {
	return append(pureStates(), plannedState(), crookedState(), lastState(), rightStates()[5])
}

func TestP1NoPlanChangesItsState(t *testing.T) {
	for i, s := range purePlanStates() {
		g := guardedState(s)
		for _, c := range planCalls() {
			got := c.do(g)
			if !untouchedState(g, s) {
				t.Fatalf("%s changes state %d", c.name, i)
			}
			// Nor does what is done to the answer, behind its end too.
			for k := range got.entries[:cap(got.entries)] {
				got.entries[:cap(got.entries)][k] = junkEntry
			}
			if !untouchedState(g, s) {
				t.Fatalf("%s of state %d lends its argument's memory", c.name, i)
			}
		}
	}
}

// What is done to a state afterwards does not change what was answered of it.
func TestP1PlansStayApartFromTheirState(t *testing.T) {
	for i, s := range purePlanStates() {
		if len(s.Entries) > 100 {
			continue
		}
		for _, c := range planCalls() {
			g := guardedState(s)
			one, other := c.do(g), c.do(g)
			before := one.text()
			fillState(g)
			for k := range other.entries {
				other.entries[k] = junkEntry
			}
			for k := range other.keys {
				other.keys[k] = "junk"
			}
			if one.text() != before {
				t.Errorf("%s of state %d shares memory: %s, then %s", c.name, i, before, one.text())
			}
		}
	}
}

func TestP1NoPlanChangesItsKeys(t *testing.T) {
	for i, s := range purePlanStates() {
		for k, keys := range pureKeys() {
			g := guardedList(keys, "strange")
			got, code := impl.OrphansOf(s, g)
			before := fmt.Sprint(got, code)
			for at := range got[:cap(got)] {
				got[:cap(got)][at] = "junk"
			}
			if !untouchedList(g, keys, "strange") {
				t.Errorf("state %d, keys %d: they are changed", i, k)
			}
			again, code := impl.OrphansOf(s, g)
			for at := range g[:cap(g)] {
				g[:cap(g)][at] = "junk"
			}
			if fmt.Sprint(again, code) != before {
				t.Errorf("state %d, keys %d: two answers: %.100s, %.100s", i, k, before, fmt.Sprint(again, code))
			}
		}
	}
}

func TestP1AlikeStatesHaveAlikePlans(t *testing.T) {
	for i, s := range purePlanStates() {
		var first []string
		calls := planCalls()
		for _, c := range calls {
			first = append(first, c.do(s).text())
		}
		// Backwards, so that each call has others ahead of it, and with another capacity.
		g := guardedState(s)
		for k, c := range slices.Backward(calls) {
			if got := c.do(g).text(); got != first[k] {
				t.Errorf("%s of state %d hangs on what was called ahead", c.name, i)
			}
		}
	}
	for _, c := range planCalls() {
		none, empty := c.do(impl.State{}).text(), c.do(impl.State{Entries: []impl.Entry{}, Tombs: []impl.Tomb{}}).text()
		if none != empty {
			t.Errorf("%s: %s of nil, %s of empty lists", c.name, none, empty)
		}
	}
	none, code := impl.OrphansOf(plannedState(), nil)
	empty, emptyCode := impl.OrphansOf(plannedState(), []string{})
	if len(none)+len(empty) != 0 || code != impl.OK || emptyCode != impl.OK {
		t.Error("OrphansOf nil and an empty list", none, code, empty, emptyCode)
	}
}
