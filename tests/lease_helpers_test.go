package tests

import (
	"fmt"
	"slices"
	"strings"
	"testing"

	"loop.example/g00601/impl"
)

const lastNow = 101000

func leaseWritten(l impl.Lease) string { return fmt.Sprintf("%d,%d,%d", l.Token, l.Owner, l.Until) }

// withLease is s with an object `lease` of these data and of the next version, put there without the program.
func withLease(s impl.Store, data string) impl.Store {
	x := impl.Store{Next: s.Next + 1, Objects: slices.Clone(s.Objects)}
	x.Objects = slices.DeleteFunc(x.Objects, func(o impl.Object) bool { return o.Key == "lease" })
	at, _ := slices.BinarySearchFunc(x.Objects, "lease", func(o impl.Object, key string) int { return strings.Compare(o.Key, key) })
	x.Objects = slices.Insert(x.Objects, at, impl.Object{Key: "lease", Ver: s.Next, Data: data})
	return x
}

// leased is a store whose lease is l, with other objects beside it.
func leased(l impl.Lease) impl.Store { return withLease(mixedStore(), leaseWritten(l)) }

// leaseStores are right stores without a lease: of nothing, and with other objects on both sides of where it would be.
func leaseStores() []impl.Store {
	around := impl.Store{Next: 4, Objects: []impl.Object{{Key: "leas", Ver: 1}, {Key: "lease-", Ver: 2, Data: "9,9,9"}, {Key: "lease0", Ver: 3, Data: "1,1,90000"}}}
	return []impl.Store{impl.NewStore(), mixedStore(), around, numberedStore(impl.MaxObjects - 1)}
}

func wantLease(t *testing.T, what string, s impl.Store, want impl.Lease, wantCode int) {
	t.Helper()
	if l, code := impl.LeaseOf(s); l != want || code != wantCode {
		t.Errorf("%s: lease %v, code %d, want %v, code %d", what, l, code, want, wantCode)
	}
}

// leaseCall is a call that changes a lease, told apart by what it answers.
type leaseCall struct {
	name string
	do   func(s impl.Store, who, token, now int) (impl.Store, int, int)
}

func leaseCalls() []leaseCall {
	return []leaseCall{
		{"Acquire", func(s impl.Store, who, _, now int) (impl.Store, int, int) { return impl.Acquire(s, who, now) }},
		{"Renew", func(s impl.Store, who, token, now int) (impl.Store, int, int) {
			x, code := impl.Renew(s, who, token, now)
			return x, 0, code
		}},
		{"Release", func(s impl.Store, who, token, _ int) (impl.Store, int, int) {
			x, code := impl.Release(s, who, token)
			return x, 0, code
		}},
	}
}

// refused checks that a call answers the code, no token, and that store.
func (c leaseCall) refused(t *testing.T, s impl.Store, who, token, now, want int, store impl.Store) {
	t.Helper()
	x, got, code := c.do(s, who, token, now)
	if code != want || got != 0 || !alike(x, store) {
		t.Errorf("%s by %d with token %d at %d: token %d, code %d, want none, code %d; store as wanted: %v", c.name, who, token, now, got, code, want, alike(x, store))
	}
}

// stays checks that a call answers the code, and the store as it was.
func (c leaseCall) stays(t *testing.T, s impl.Store, who, token, now, want int) {
	t.Helper()
	c.refused(t, s, who, token, now, want, s)
}

// done checks that a call leads to that lease and to nothing else; of Acquire the token is told.
func (c leaseCall) done(t *testing.T, s impl.Store, who, token, now int, want impl.Lease) impl.Store {
	t.Helper()
	x, got, code := c.do(s, who, token, now)
	told := 0
	if c.name == "Acquire" {
		told = want.Token
	}
	if code != impl.OK || got != told || !alike(x, withLease(s, leaseWritten(want))) {
		t.Errorf("%s by %d with token %d at %d: token %d, code %d, store %v, want token %d and lease %v", c.name, who, token, now, got, code, x, told, want)
	}
	return x
}

func acquiring() leaseCall { return leaseCalls()[0] }
func renewing() leaseCall  { return leaseCalls()[1] }
func releasing() leaseCall { return leaseCalls()[2] }

func rightLeases() []impl.Lease {
	var list []impl.Lease
	for _, token := range []int{1, 2, 9, 10, 12345, 999998, 999999} {
		for _, owner := range []int{0, 1, 5, 9} {
			for _, until := range []int{0, 1, 19, 20, 99999, 100000, 101020, 199999, 200000} {
				list = append(list, impl.Lease{Token: token, Owner: owner, Until: until})
			}
		}
	}
	return list
}

// wrongLeases are one beyond a bound each, or far off.
func wrongLeases() []impl.Lease {
	const least, most = -1 << 63, 1<<63 - 1
	list := []impl.Lease{{}, {Owner: 3, Until: 50}, {Token: -1, Owner: 10, Until: -1}}
	for _, token := range []int{0, -1, 1000000, 1000001, least, most, 1 << 32, 1<<32 + 1} {
		list = append(list, impl.Lease{Token: token}, impl.Lease{Token: token, Owner: 9, Until: 200000})
	}
	for _, owner := range []int{-1, 10, 11, least, most, 1 << 32, -1 << 32} {
		list = append(list, impl.Lease{Token: 1, Owner: owner}, impl.Lease{Token: 999999, Owner: owner, Until: 200000})
	}
	for _, until := range []int{-1, 200001, 200002, least, most, 1 << 32, -1 << 32} {
		list = append(list, impl.Lease{Token: 1, Until: until}, impl.Lease{Token: 999999, Owner: 9, Until: until})
	}
	return list
}

func wrongWhos() []int { return []int{-1, 10, 11, -1 << 63, 1<<63 - 1, 1 << 32, 1<<32 + 3} }

func wrongNows() []int {
	return []int{-1, lastNow + 1, lastNow + 2, 2 * lastNow, -1 << 63, 1<<63 - 1, 1 << 32, 1<<32 + 3}
}

// noLeases are data that cannot be read as a lease, but fit into an object.
func noLeases() []string {
	list := []string{
		"", "what", ",", ",,", ",,,", "1", "1,", "1,0", "1,0,", ",1,0", "1,,0", "3,4", "3,4,5,6", "3,4,5,", ",3,4,5", "3,4,,5", "3,,5", "3,4,5,0,0",
		"03,4,5", "3,04,5", "3,4,05", "3,4,00", "3,00,5", "000003,4,5", "3,-0,5", "3,4,-0", "+3,4,5", "3,+4,5", "3,4,+5", "--3,4,5",
		"-3,4,5", "3,-4,5", "3,4,-5", "3,4,-", "-,4,5", "3-,4,5", " 3,4,5", "3,4,5 ", "3, 4,5", "3 4 5", "3;4;5", "3,4,5\n", "3,4,5\x00", "3,4,5,\n",
		"3.0,4,5", "3,4,5e0", "0x3,4,5", "3,4,1_0", "a,4,5", "3,b,5", "3,4,c", "٣,4,5", "3，4，5", "\"3\",4,5", "3=4:5",
		"0,4,5", "1000000,4,5", "3,10,5", "3,-1,5", "3,4,-1", "3,4,200001", "999999999999999999,4,5", "3,999999999999999999,5", "3,4,999999999999999999",
		"1000000000000000000,4,5", "3,4,1000000000000000000", "18446744073709551619,4,5", "3,18446744073709551620,5", "3,4,18446744073709551621",
		strings.Repeat("9", 300), strings.Repeat(",", 600), strings.Repeat("0", 600), strings.Repeat("0", 590) + "3,4,5", strings.Repeat("1,", 300),
	}
	for _, l := range wrongLeases() {
		list = append(list, leaseWritten(l))
	}
	return list
}
