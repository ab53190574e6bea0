package tests

import (
	"fmt"
	"slices"
	"strings"
	"testing"

	"loop.example/g00601/impl"
)

const lastNext = 1000000000

// text is a text of n bytes that are all fit for keys and names.
func text(n int) string { return strings.Repeat("a", n) }

// numberedStore has n objects with the versions 1 to n, more than a right store may have if n says so.
func numberedStore(n int) impl.Store {
	s := impl.Store{Next: n + 1}
	for i := range n {
		s.Objects = append(s.Objects, impl.Object{Key: fmt.Sprintf("k/%06d", i), Ver: i + 1, Data: fmt.Sprint("data ", i)})
	}
	return s
}

// mixedStore has versions that do not rise with the keys, and room between them.
func mixedStore() impl.Store {
	return impl.Store{Next: 10, Objects: []impl.Object{
		{Key: "-", Ver: 9, Data: "dash"},
		{Key: "a", Ver: 4},
		{Key: "a-b", Ver: 1, Data: "one"},
		{Key: "a/b", Ver: 7, Data: "two\x00\xff\n"},
		{Key: "b0", Ver: 3, Data: "three"},
	}}
}

func copied(s impl.Store) impl.Store {
	return impl.Store{Objects: slices.Clone(s.Objects), Next: s.Next}
}

// alike is what SameStore ought to tell, and does not lean on it.
func alike(a, b impl.Store) bool {
	return a.Next == b.Next && slices.Equal(a.Objects, b.Objects)
}

func mustPut(t *testing.T, s impl.Store, key, data string) (impl.Store, int) {
	t.Helper()
	x, ver, code := impl.PutAbsent(s, key, data)
	if code != impl.OK {
		t.Fatalf("PutAbsent %q: code %d", key, code)
	}
	return x, ver
}

func wantStore(t *testing.T, what string, got, want impl.Store) {
	t.Helper()
	if !alike(got, want) {
		t.Errorf("%s: store %v, want %v", what, got, want)
	}
}

func wantCode(t *testing.T, what string, got, want int) {
	t.Helper()
	if got != want {
		t.Errorf("%s: code %d, want %d", what, got, want)
	}
}

// wantSeen checks that all of these were seen that many times at least, and that no others were.
func wantSeen[K comparable](t *testing.T, seen map[K]int, least int, all ...K) {
	t.Helper()
	for _, k := range all {
		if seen[k] < least {
			t.Errorf("hardly ever %v: %d times", k, seen[k])
		}
	}
	for k := range seen {
		if !slices.Contains(all, k) {
			t.Errorf("seen, though there is no such thing: %v", k)
		}
	}
}

// numbered pairs each of the rows' numbers with the number of its row.
func numbered(rows ...[]int) [][2]int {
	var pairs [][2]int
	for i, row := range rows {
		for _, n := range row {
			pairs = append(pairs, [2]int{i, n})
		}
	}
	return pairs
}
