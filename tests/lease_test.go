package tests

import (
	"fmt"
	"math/rand"
	"testing"

	"loop.example/g00601/impl"
)

func TestP6TheFirstLease(t *testing.T) {
	for _, s := range leaseStores() {
		wantLease(t, "a store without one", s, impl.Lease{}, impl.ErrNone)
		for _, who := range []int{0, 4, 9} {
			for _, now := range []int{0, 1, 100, impl.MaxTime, lastNow} {
				want := impl.Lease{Token: 1, Owner: who, Until: now + 20}
				wantLease(t, "acquired", acquiring().done(t, s, who, 0, now, want), want, impl.OK)
			}
		}
	}
}

// A lease keeps all out, its owner too, up to its end and twice the skew, and none from one beyond on.
func TestP6OthersAreKeptOutTillItEnds(t *testing.T) {
	for _, until := range []int{1, 2, 20, 120, 99999, impl.MaxTime, impl.MaxTime + 20} {
		s := leased(impl.Lease{Token: 7, Owner: 3, Until: until})
		for who := range 10 {
			for _, now := range []int{0, 1, until - 20, until - 1, until, until + 1, until + 3, until + 5, until + 6} {
				acquiring().stays(t, s, who, 0, min(max(now, 0), until+6), impl.ErrHeld)
			}
			for _, now := range []int{until + 7, until + 8, until + 100, lastNow} {
				acquiring().done(t, s, who, 0, now, impl.Lease{Token: 8, Owner: who, Until: now + 20})
			}
		}
	}
	for _, until := range []int{lastNow - 6, lastNow, lastNow + 20, 199999, 200000} {
		acquiring().stays(t, leased(impl.Lease{Token: 7, Owner: 3, Until: until}), 4, 0, lastNow, impl.ErrHeld)
	}
	acquiring().done(t, leased(impl.Lease{Token: 7, Owner: 3, Until: lastNow - 7}), 4, 0, lastNow, impl.Lease{Token: 8, Owner: 4, Until: lastNow + 20})
}

func TestP6EachTimeOfALease(t *testing.T) {
	for begin := range 30 {
		s := acquiring().done(t, impl.NewStore(), 1, 0, begin, impl.Lease{Token: 1, Owner: 1, Until: begin + 20})
		for now := range begin + 40 {
			if now <= begin+26 {
				acquiring().stays(t, s, 2, 0, now, impl.ErrHeld)
			} else {
				acquiring().done(t, s, 2, 0, now, impl.Lease{Token: 2, Owner: 2, Until: now + 20})
			}
		}
	}
}

func TestP6WhatWasLetGoIsFreeAtOnce(t *testing.T) {
	for _, l := range []impl.Lease{{Token: 1, Owner: 0, Until: 20}, {Token: 7, Owner: 3, Until: 120}, {Token: 999998, Owner: 9, Until: 200000}} {
		s := leased(l)
		acquiring().stays(t, s, 5, 0, 0, impl.ErrHeld)
		gone := impl.Lease{Token: l.Token, Owner: l.Owner}
		free := releasing().done(t, s, l.Owner, l.Token, 0, gone)
		wantLease(t, "let go", free, gone, impl.OK)
		for who := range 10 {
			for _, now := range []int{0, 1, 6, 7, l.Until % 1000, lastNow} {
				acquiring().done(t, free, who, 0, now, impl.Lease{Token: l.Token + 1, Owner: who, Until: now + 20})
			}
		}
	}
}

func TestP6ARenewedLeaseLastsLonger(t *testing.T) {
	s := leased(impl.Lease{Token: 7, Owner: 3, Until: 120})
	acquiring().done(t, s, 4, 0, 127, impl.Lease{Token: 8, Owner: 4, Until: 147})
	s = renewing().done(t, s, 3, 7, 115, impl.Lease{Token: 7, Owner: 3, Until: 135})
	acquiring().stays(t, s, 4, 0, 127, impl.ErrHeld)
	acquiring().stays(t, s, 4, 0, 141, impl.ErrHeld)
	acquiring().done(t, s, 4, 0, 142, impl.Lease{Token: 8, Owner: 4, Until: 162})
	// The end is told by the time alone: a clock that was set back brings it nearer, and what has it already is put anew.
	back := renewing().done(t, s, 3, 7, 100, impl.Lease{Token: 7, Owner: 3, Until: 120})
	renewing().done(t, back, 3, 7, 100, impl.Lease{Token: 7, Owner: 3, Until: 120})
	for _, now := range []int{0, 1, impl.MaxTime, impl.MaxTime + 1, lastNow} {
		renewing().done(t, s, 3, 7, now, impl.Lease{Token: 7, Owner: 3, Until: now + 20})
	}
}

// Who is late has its lease as long as no other one took it.
func TestP6WhoIsLate(t *testing.T) {
	s := leased(impl.Lease{Token: 7, Owner: 3, Until: 120})
	for _, now := range []int{121, 126, 127, 500, lastNow} {
		renewing().done(t, s, 3, 7, now, impl.Lease{Token: 7, Owner: 3, Until: now + 20})
	}
	releasing().done(t, s, 3, 7, 0, impl.Lease{Token: 7, Owner: 3})
	taken := acquiring().done(t, s, 4, 0, 127, impl.Lease{Token: 8, Owner: 4, Until: 147})
	own := acquiring().done(t, s, 3, 0, 127, impl.Lease{Token: 8, Owner: 3, Until: 147})
	for _, c := range []leaseCall{renewing(), releasing()} {
		for _, now := range []int{100, 119, 120, 127, 500} {
			c.stays(t, taken, 3, 7, now, impl.ErrStale)
			c.stays(t, taken, 3, 8, now, impl.ErrStale)
			c.stays(t, taken, 4, 7, now, impl.ErrStale)
			c.stays(t, own, 3, 7, now, impl.ErrStale)
		}
	}
	renewing().done(t, own, 3, 8, 130, impl.Lease{Token: 8, Owner: 3, Until: 150})
	releasing().done(t, taken, 4, 8, 0, impl.Lease{Token: 8, Owner: 4})
}

func TestP6WhoHasNotTheLeaseIsStale(t *testing.T) {
	s := leased(impl.Lease{Token: 7, Owner: 3, Until: 120})
	free := leased(impl.Lease{Token: 7, Owner: 3})
	for _, c := range []leaseCall{renewing(), releasing()} {
		for who := range 10 {
			for _, token := range []int{0, 1, 3, 6, 7, 8, -7, 70, 1000000, -1 << 63, 1<<63 - 1, 1<<32 + 7} {
				if who != 3 || token != 7 {
					c.stays(t, s, who, token, 110, impl.ErrStale)
				}
				c.stays(t, free, who, token, 110, impl.ErrStale)
				for _, none := range leaseStores() {
					c.stays(t, none, who, token, 110, impl.ErrStale)
				}
			}
		}
	}
}

// plainLease is a lease as the document tells it, as plainly as can be: what each call must answer is worked out from it.
type plainLease struct {
	store impl.Store
	lease impl.Lease
}

func (p *plainLease) set(l impl.Lease) int {
	p.lease, p.store = l, withLease(p.store, leaseWritten(l))
	return impl.OK
}

func (p *plainLease) acquire(who, now int) (int, int) {
	if p.lease.Until != 0 && p.lease.Until+6 >= now {
		return 0, impl.ErrHeld
	}
	if p.lease.Token == 999999 {
		return 0, impl.ErrFull
	}
	token := p.lease.Token + 1
	return token, p.set(impl.Lease{Token: token, Owner: who, Until: now + 20})
}

func (p *plainLease) change(who, token, until int) int {
	if p.lease.Until == 0 || p.lease.Owner != who || p.lease.Token != token {
		return impl.ErrStale
	}
	return p.set(impl.Lease{Token: token, Owner: who, Until: until})
}

// step does one call on both, and answers what it was, the token, and whether they answered alike.
func (p *plainLease) step(r *rand.Rand, s *impl.Store, now int) (string, int, bool) {
	who, token := r.Intn(3), p.lease.Token
	if r.Intn(3) == 0 {
		token += r.Intn(3) - 1
	}
	if r.Intn(2) == 0 {
		who = p.lease.Owner
	}
	var got, code, wantToken, want int
	kind := r.Intn(4)
	switch kind {
	case 0, 1:
		*s, got, code = impl.Acquire(*s, who, now)
		wantToken, want = p.acquire(who, now)
	case 2:
		*s, code = impl.Renew(*s, who, token, now)
		want = p.change(who, token, now+20)
	default:
		*s, code = impl.Release(*s, who, token)
		want = p.change(who, token, 0)
	}
	what := fmt.Sprintf("call %d by %d with token %d at %d: token %d, code %d, want %d, code %d", kind, who, token, now, got, code, wantToken, want)
	return what, got, got == wantToken && code == want && alike(*s, p.store)
}

func TestP6TokensRiseOverChains(t *testing.T) {
	for seed := range 12 {
		r := rand.New(rand.NewSource(int64(seed)))
		s := leaseStores()[seed%4]
		p := &plainLease{store: s}
		most, now := 0, r.Intn(50)
		for step := range 1500 {
			// Clocks drift, so that times do not only rise.
			now = min(max(now+r.Intn(15)-4, 0), lastNow)
			what, token, ok := p.step(r, &s, now)
			if !ok {
				t.Fatalf("seed %d step %d: %s", seed, step, what)
			}
			if token != 0 && token <= most {
				t.Fatalf("seed %d step %d: token %d behind %d", seed, step, token, most)
			}
			most = max(most, token)
			if l, code := impl.LeaseOf(s); step > 100 && (l != p.lease || code != impl.OK) {
				t.Fatalf("seed %d step %d: lease %v, code %d, want %v", seed, step, l, code, p.lease)
			}
		}
		if most < 50 {
			t.Errorf("seed %d: only %d tokens", seed, most)
		}
	}
}

// Of all that ask one after the other with one clock, one alone has the lease.
func TestP6OneOfManyHasIt(t *testing.T) {
	s := impl.NewStore()
	for round := range 20 {
		now := round * 27
		for who := range 10 {
			asked := (round + who) % 10
			if who == 0 {
				s = acquiring().done(t, s, asked, 0, now, impl.Lease{Token: round + 1, Owner: asked, Until: now + 20})
			} else {
				acquiring().stays(t, s, asked, 0, now, impl.ErrHeld)
			}
		}
	}
}
