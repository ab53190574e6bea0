package tests

import (
	"math/rand"
	"regexp"
	"strconv"
	"strings"
	"testing"

	"loop.example/g00601/impl"
)

func wantLeaseRead(t *testing.T, text string, want impl.Lease, wantCode int) {
	t.Helper()
	if l, code := impl.ReadLease(text); l != want || code != wantCode {
		t.Errorf("ReadLease(%.60q) of %d bytes = %v, code %d, want %v, code %d", text, len(text), l, code, want, wantCode)
	}
}

func wantLeaseReadBack(t *testing.T, l impl.Lease) {
	t.Helper()
	if !impl.LeaseOK(l) {
		t.Errorf("%v is right", l)
	}
	if text, code := impl.LeaseText(l); text != leaseWritten(l) || code != impl.OK {
		t.Errorf("LeaseText(%v) = %q, code %d", l, text, code)
	}
	wantLeaseRead(t, leaseWritten(l), l, impl.OK)
}

func TestP6LeasesAreReadBack(t *testing.T) {
	for _, l := range rightLeases() {
		wantLeaseReadBack(t, l)
	}
	r := rand.New(rand.NewSource(6))
	for range 2000 {
		wantLeaseReadBack(t, impl.Lease{Token: 1 + r.Intn(999999), Owner: r.Intn(10), Until: r.Intn(200001)})
	}
}

func TestP6LeasesThatAreNotRight(t *testing.T) {
	for _, l := range wrongLeases() {
		if impl.LeaseOK(l) {
			t.Errorf("%v is not right", l)
		}
		if text, code := impl.LeaseText(l); text != "" || code != impl.ErrBad {
			t.Errorf("LeaseText(%v) = %q, code %d", l, text, code)
		}
	}
}

func TestP6TextsThatAreNoLease(t *testing.T) {
	for _, text := range noLeases() {
		wantLeaseRead(t, text, impl.Lease{}, impl.ErrForm)
	}
}

func TestP6LongTextsOfLeases(t *testing.T) {
	for _, piece := range []string{"3", ",", "3,4,5", "a", "0", "-", " "} {
		long := strings.Repeat(piece, impl.MaxText+1)
		wantLeaseRead(t, long[:impl.MaxText], impl.Lease{}, impl.ErrForm)
		wantLeaseRead(t, long[:impl.MaxText+1], impl.Lease{}, impl.ErrLong)
	}
	wantLeaseRead(t, "3,4,5"+strings.Repeat(" ", impl.MaxText-5), impl.Lease{}, impl.ErrForm)
	wantLeaseRead(t, "3,4,5"+strings.Repeat(" ", impl.MaxText-4), impl.Lease{}, impl.ErrLong)
	wantLeaseRead(t, strings.Repeat("9", 10*impl.MaxText), impl.Lease{}, impl.ErrLong)
}

var leaseForm = regexp.MustCompile(`\A([1-9][0-9]{0,5}),([0-9]),(0|[1-9][0-9]{0,5})\z`)

// plainLeaseOf is the lease whose text it is, if it is one, as the document tells it.
func plainLeaseOf(text string) (impl.Lease, bool) {
	found := leaseForm.FindStringSubmatch(text)
	if found == nil {
		return impl.Lease{}, false
	}
	token, _ := strconv.Atoi(found[1])
	owner, _ := strconv.Atoi(found[2])
	until, _ := strconv.Atoi(found[3])
	if until > 200000 {
		return impl.Lease{}, false
	}
	return impl.Lease{Token: token, Owner: owner, Until: until}, true
}

// Whatever is done to one byte of a text, it is no text, or that of another lease.
func TestP6EachByteOfALeaseCounts(t *testing.T) {
	for _, whole := range []string{"1,0,0", "3,4,5", "10,9,100", "999999,9,200000"} {
		neighbours(whole, func(text string) {
			if want, ok := plainLeaseOf(text); ok {
				wantLeaseRead(t, text, want, impl.OK)
			} else {
				wantLeaseRead(t, text, impl.Lease{}, impl.ErrForm)
			}
		})
	}
}
