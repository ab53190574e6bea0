package tests

import (
	"fmt"
	"slices"
	"strings"
	"testing"

	"loop.example/g00601/impl"
)

// leaseStoreCalls are all calls on a store's lease, with arguments that lead to each of their codes.
func leaseStoreCalls() []storeCall {
	calls := []storeCall{{"LeaseOf", func(s impl.Store) given {
		l, code := impl.LeaseOf(s)
		return given{rest: fmt.Sprint(l, code)}
	}}}
	for _, c := range leaseCalls() {
		for _, who := range []int{3, 4, 0, 9, -1, 10, -1 << 63, 1<<63 - 1} {
			for _, token := range []int{7, 8, 999999, 0, -1, -1 << 63, 1<<63 - 1} {
				for _, now := range []int{0, 110, 126, 127, lastNow, lastNow + 1, -1, -1 << 63, 1<<63 - 1} {
					name := fmt.Sprintf("%s by %d with token %d at %d", c.name, who, token, now)
					calls = append(calls, storeCall{name, func(s impl.Store) given {
						x, got, code := c.do(s, who, token, now)
						return given{store: x, rest: fmt.Sprint(got, code)}
					}})
				}
			}
		}
	}
	return calls
}

func pureLeaseStores() []impl.Store {
	late := leased(impl.Lease{Token: 7, Owner: 3, Until: 120})
	late.Next = lastNext
	return []impl.Store{
		{}, impl.NewStore(), mixedStore(), numberedStore(impl.MaxObjects), numberedStore(impl.MaxObjects + 1), late,
		leased(impl.Lease{Token: 7, Owner: 3, Until: 120}), leased(impl.Lease{Token: 7, Owner: 3}), leased(impl.Lease{Token: 999999, Owner: 3, Until: 120}),
		withLease(mixedStore(), "what"), withLease(numberedStore(impl.MaxObjects-1), "7,3,120"), withLease(impl.NewStore(), "7,3,120"),
		{Next: 1<<63 - 1, Objects: []impl.Object{{Key: "lease", Ver: -1 << 63, Data: "7,3,120"}, {Key: "lease", Ver: 1<<63 - 1}}},
	}
}

func TestP1NoLeaseChangesItsStore(t *testing.T) {
	for i, s := range pureLeaseStores() {
		for _, c := range leaseStoreCalls() {
			g := guarded(s)
			got := c.do(g)
			if !untouched(g, s) {
				t.Errorf("%s changes store %d", c.name, i)
			}
			// Nor does what is done to the answer.
			fill(got.store.Objects[:cap(got.store.Objects)])
			if !untouched(g, s) {
				t.Errorf("%s of store %d lends its argument's memory", c.name, i)
			}
		}
	}
}

func TestP1AlikeStoresHaveAlikeLeases(t *testing.T) {
	for i, s := range pureLeaseStores() {
		var first []string
		calls := leaseStoreCalls()
		for _, c := range calls {
			first = append(first, c.do(s).text())
		}
		// Backwards, so that each call has others ahead of it, and with another capacity.
		for k, c := range slices.Backward(calls) {
			if got := c.do(guarded(s)).text(); got != first[k] {
				t.Errorf("%s of store %d hangs on what was called ahead", c.name, i)
			}
		}
	}
	for _, c := range leaseStoreCalls() {
		none, empty := c.do(impl.Store{Next: 1}).text(), c.do(impl.Store{Next: 1, Objects: []impl.Object{}}).text()
		if none != empty {
			t.Errorf("%s: %s of nil, %s of an empty list", c.name, none, empty)
		}
	}
}

// leaseSaid is what the calls of leases say of a text.
func leaseSaid(text string) string {
	l, code := impl.ReadLease(text)
	back, backCode := impl.LeaseText(l)
	return fmt.Sprintln(l, code, impl.LeaseOK(l), back, backCode)
}

func TestP1AlikeTextsAreAlikeLeases(t *testing.T) {
	texts := append(noLeases(), "3,4,5", "1,0,0", "999999,9,200000", text(impl.MaxText), text(impl.MaxText+1))
	var first []string
	for _, text := range texts {
		first = append(first, leaseSaid(text))
	}
	for i, text := range slices.Backward(texts) {
		if got := leaseSaid(strings.Clone(text)); got != first[i] {
			t.Errorf("%.60q has two answers: %s, %s", text, first[i], got)
		}
	}
	for _, l := range append(rightLeases(), wrongLeases()...) {
		one, code := impl.LeaseText(l)
		other, otherCode := impl.LeaseText(l)
		if one != other || code != otherCode || impl.LeaseOK(l) != (code == impl.OK) {
			t.Errorf("%v has two answers: %q, %q", l, one, other)
		}
	}
}

// Two that acquire of one store each have a store of their own.
func TestP1StoresOfTwoWhoAcquireStayApart(t *testing.T) {
	s := guarded(mixedStore())
	a, _, _ := impl.Acquire(s, 1, 5)
	b, _, _ := impl.Acquire(s, 2, 6)
	wantLease(t, "the first one's", a, impl.Lease{Token: 1, Owner: 1, Until: 25}, impl.OK)
	wantLease(t, "the second one's", b, impl.Lease{Token: 1, Owner: 2, Until: 26}, impl.OK)
	wantLease(t, "none's", s, impl.Lease{}, impl.ErrNone)
}
