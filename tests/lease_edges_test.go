package tests

import (
	"testing"

	"loop.example/g00601/impl"
)

// wrongLeaseStores are stores that are not right, with a lease that is held in some.
func wrongLeaseStores() []impl.Store {
	stores := wrongStores()
	for _, spoil := range []func(s *impl.Store){
		func(s *impl.Store) { s.Next = s.Objects[len(s.Objects)-1].Ver },
		func(s *impl.Store) { s.Next = lastNext + 1 },
		func(s *impl.Store) { s.Objects[0].Ver = s.Objects[1].Ver },
		func(s *impl.Store) { s.Objects[0], s.Objects[1] = s.Objects[1], s.Objects[0] },
		func(s *impl.Store) { s.Objects = append(s.Objects, s.Objects[len(s.Objects)-1]) },
		func(s *impl.Store) { s.Objects[len(s.Objects)-1].Data += text(impl.MaxData) },
	} {
		s := leased(impl.Lease{Token: 7, Owner: 3, Until: 120})
		spoil(&s)
		stores = append(stores, s)
	}
	return stores
}

func TestP6StoresThatAreNotRight(t *testing.T) {
	for _, s := range wrongLeaseStores() {
		wantLease(t, "a store that is not right", s, impl.Lease{}, impl.ErrBad)
		for _, c := range leaseCalls() {
			c.refused(t, s, 3, 7, 110, impl.ErrBad, impl.Store{})
			// ErrBad comes ahead of ErrRange.
			c.refused(t, s, -1, 7, 110, impl.ErrBad, impl.Store{})
			c.refused(t, s, 10, 0, -1, impl.ErrBad, impl.Store{})
			c.refused(t, s, 3, 7, lastNow+1, impl.ErrBad, impl.Store{})
		}
	}
}

// rangeStores lead to each code that comes behind ErrRange, and to none.
func rangeStores() []impl.Store {
	return append(fullStores(),
		impl.NewStore(), mixedStore(), withLease(mixedStore(), "what"),
		leased(impl.Lease{Token: 7, Owner: 3, Until: 120}), leased(impl.Lease{Token: 7, Owner: 3}),
		leased(impl.Lease{Token: 999999, Owner: 3}), leased(impl.Lease{Token: 999999, Owner: 3, Until: 200000}),
	)
}

func TestP6WhoAndNowBeyondTheirBounds(t *testing.T) {
	for _, s := range rangeStores() {
		for _, c := range leaseCalls() {
			for _, who := range wrongWhos() {
				c.refused(t, s, who, 7, 110, impl.ErrRange, impl.Store{})
				c.refused(t, s, who, 0, -1, impl.ErrRange, impl.Store{})
			}
		}
		for _, now := range wrongNows() {
			for _, who := range []int{0, 3, 9} {
				acquiring().refused(t, s, who, 7, now, impl.ErrRange, impl.Store{})
				renewing().refused(t, s, who, 7, now, impl.ErrRange, impl.Store{})
			}
		}
	}
}

func TestP6WhoAndNowAtTheirBounds(t *testing.T) {
	for _, who := range []int{0, 9} {
		held := leased(impl.Lease{Token: 7, Owner: who, Until: 120})
		for _, now := range []int{0, lastNow} {
			acquiring().done(t, mixedStore(), who, 0, now, impl.Lease{Token: 1, Owner: who, Until: now + 20})
			renewing().done(t, held, who, 7, now, impl.Lease{Token: 7, Owner: who, Until: now + 20})
		}
		releasing().done(t, held, who, 7, 0, impl.Lease{Token: 7, Owner: who})
	}
}

func TestP6LeasesThatCannotBeRead(t *testing.T) {
	for _, base := range append(leaseStores(), numberedStore(impl.MaxObjects-1)) {
		for _, data := range noLeases() {
			s := withLease(base, data)
			wantLease(t, "data "+data, s, impl.Lease{}, impl.ErrDamaged)
			for _, c := range leaseCalls() {
				c.stays(t, s, 3, 7, 110, impl.ErrDamaged)
			}
		}
	}
	// ErrDamaged comes ahead of a put's codes.
	late := withLease(mixedStore(), "3,4")
	late.Next = lastNext
	for _, c := range leaseCalls() {
		c.stays(t, late, 4, 3, lastNow, impl.ErrDamaged)
	}
}

func TestP6StoresThatAreFull(t *testing.T) {
	for _, s := range fullStores() {
		wantLease(t, "a full store", s, impl.Lease{}, impl.ErrNone)
		acquiring().stays(t, s, 3, 0, 110, impl.ErrFull)
		renewing().stays(t, s, 3, 1, 110, impl.ErrStale)
		releasing().stays(t, s, 3, 1, 0, impl.ErrStale)
	}
	// A lease that is there needs no new key.
	whole := withLease(numberedStore(impl.MaxObjects-1), "7,3,120")
	renewing().done(t, whole, 3, 7, 110, impl.Lease{Token: 7, Owner: 3, Until: 130})
	acquiring().done(t, whole, 4, 0, 127, impl.Lease{Token: 8, Owner: 4, Until: 147})
	releasing().done(t, whole, 3, 7, 0, impl.Lease{Token: 7, Owner: 3})
	acquiring().done(t, numberedStore(impl.MaxObjects-1), 4, 0, 5, impl.Lease{Token: 1, Owner: 4, Until: 25})
}

func TestP6StoresWithoutAVersionLeft(t *testing.T) {
	for _, last := range []int{lastNext - 1, lastNext} {
		s := leased(impl.Lease{Token: 7, Owner: 3, Until: 120})
		s.Next = last
		acquiring().stays(t, s, 4, 0, 126, impl.ErrHeld)
		renewing().stays(t, s, 4, 7, 110, impl.ErrStale)
		releasing().stays(t, s, 3, 6, 0, impl.ErrStale)
		if last == lastNext {
			acquiring().stays(t, s, 4, 0, 127, impl.ErrFull)
			renewing().stays(t, s, 3, 7, 110, impl.ErrFull)
			releasing().stays(t, s, 3, 7, 0, impl.ErrFull)
			continue
		}
		acquiring().done(t, s, 4, 0, 127, impl.Lease{Token: 8, Owner: 4, Until: 147})
		renewing().done(t, s, 3, 7, 110, impl.Lease{Token: 7, Owner: 3, Until: 130})
		releasing().done(t, s, 3, 7, 0, impl.Lease{Token: 7, Owner: 3})
	}
}

func TestP6TheLastToken(t *testing.T) {
	before := leased(impl.Lease{Token: 999998, Owner: 3, Until: 120})
	last := acquiring().done(t, before, 4, 0, 127, impl.Lease{Token: 999999, Owner: 4, Until: 147})
	acquiring().stays(t, last, 5, 0, 153, impl.ErrHeld)
	acquiring().stays(t, last, 5, 0, 154, impl.ErrFull)
	acquiring().stays(t, last, 4, 0, lastNow, impl.ErrFull)
	renewed := renewing().done(t, last, 4, 999999, 140, impl.Lease{Token: 999999, Owner: 4, Until: 160})
	acquiring().stays(t, renewed, 5, 0, 166, impl.ErrHeld)
	acquiring().stays(t, renewed, 5, 0, 167, impl.ErrFull)
	free := releasing().done(t, renewed, 4, 999999, 0, impl.Lease{Token: 999999, Owner: 4})
	for who := range 10 {
		acquiring().stays(t, free, who, 0, 0, impl.ErrFull)
		acquiring().stays(t, free, who, 0, lastNow, impl.ErrFull)
	}
}

// Until at its bounds: 1 is not let go, and the last one keeps out whatever time it is.
func TestP6UntilAtItsBounds(t *testing.T) {
	for _, until := range []int{1, 199999, 200000} {
		s := leased(impl.Lease{Token: 7, Owner: 3, Until: until})
		wantLease(t, "held", s, impl.Lease{Token: 7, Owner: 3, Until: until}, impl.OK)
		acquiring().stays(t, s, 4, 0, 7, impl.ErrHeld)
		renewing().done(t, s, 3, 7, 0, impl.Lease{Token: 7, Owner: 3, Until: 20})
		releasing().done(t, s, 3, 7, 0, impl.Lease{Token: 7, Owner: 3})
	}
	acquiring().done(t, leased(impl.Lease{Token: 7, Owner: 3, Until: 1}), 4, 0, 8, impl.Lease{Token: 8, Owner: 4, Until: 28})
	for _, now := range []int{0, 1, 6, 7} {
		acquiring().done(t, leased(impl.Lease{Token: 7, Owner: 3}), 4, 0, now, impl.Lease{Token: 8, Owner: 4, Until: now + 20})
	}
}

func TestP6Constants(t *testing.T) {
	if impl.LeaseKey != "lease" || impl.LeaseFor != 20 || impl.Skew != 3 || impl.MaxToken != 999999 {
		t.Error("constants", impl.LeaseKey, impl.LeaseFor, impl.Skew, impl.MaxToken)
	}
}
