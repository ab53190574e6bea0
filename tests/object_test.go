package tests

import (
	"slices"
	"strings"
	"testing"

	"loop.example/g00601/impl"
)

func TestNewStoreIsEmpty(t *testing.T) {
	s := impl.NewStore()
	if len(s.Objects) != 0 || s.Next != 1 || !impl.StoreOK(s) {
		t.Error(s)
	}
}

func TestP2WhatIsPutIsGot(t *testing.T) {
	s := impl.NewStore()
	data := map[string]string{"b": "", "a/b": "two\x00\xff\n", "a": text(impl.MaxData), "-": "dash", text(impl.MaxKey): "long"}
	vers := map[string]int{}
	for i, key := range []string{"b", "a/b", "a", "-", text(impl.MaxKey)} {
		s, vers[key] = mustPut(t, s, key, data[key])
		if vers[key] != i+1 || s.Next != i+2 || len(s.Objects) != i+1 || !impl.StoreOK(s) {
			t.Errorf("put %q: version %d, store %v", key, vers[key], s)
		}
	}
	for key, want := range data {
		if d, v, code := impl.GetObject(s, key); d != want || v != vers[key] || code != impl.OK {
			t.Errorf("GetObject(%q) = %q, %d, %d", key, d, v, code)
		}
	}
	if d, v, code := impl.GetObject(s, "c"); d != "" || v != 0 || code != impl.ErrNone {
		t.Error("GetObject of none", d, v, code)
	}
}

func TestP2PutVersionChangesOneObjectOnly(t *testing.T) {
	s := mixedStore()
	x, ver, code := impl.PutVersion(s, "a-b", 1, "new")
	want := mixedStore()
	want.Objects[2] = impl.Object{Key: "a-b", Ver: 10, Data: "new"}
	want.Next = 11
	if ver != 10 || code != impl.OK {
		t.Error("PutVersion", ver, code)
	}
	wantStore(t, "PutVersion", x, want)
	if d, v, code := impl.GetObject(x, "a-b"); d != "new" || v != 10 || code != impl.OK {
		t.Error("GetObject", d, v, code)
	}
}

func TestP2DeleteVersionTakesOneObjectAway(t *testing.T) {
	x, code := impl.DeleteVersion(mixedStore(), "a/b", 7)
	want := mixedStore()
	want.Objects = slices.Delete(want.Objects, 3, 4)
	wantCode(t, "DeleteVersion", code, impl.OK)
	wantStore(t, "DeleteVersion", x, want)
	if d, v, code := impl.GetObject(x, "a/b"); d != "" || v != 0 || code != impl.ErrNone {
		t.Error("GetObject", d, v, code)
	}
}

func TestP2DeleteTheOnlyObject(t *testing.T) {
	s, ver := mustPut(t, impl.NewStore(), "a", "x")
	x, code := impl.DeleteVersion(s, "a", ver)
	wantCode(t, "DeleteVersion", code, impl.OK)
	wantStore(t, "DeleteVersion", x, impl.Store{Next: 2})
}

// change is what one of two clients does to the version that both have read.
type change struct {
	name string
	do   func(s impl.Store, ver int) (impl.Store, int, int)
}

func changes() []change {
	return []change{
		{"put", func(s impl.Store, ver int) (impl.Store, int, int) { return impl.PutVersion(s, "a/b", ver, "mine") }},
		{"delete", func(s impl.Store, ver int) (impl.Store, int, int) {
			x, code := impl.DeleteVersion(s, "a/b", ver)
			return x, 0, code
		}},
	}
}

func TestP2TheSecondOfTwoIsTold(t *testing.T) {
	for _, first := range changes() {
		for _, second := range changes() {
			x, _, code := first.do(mixedStore(), 7)
			wantCode(t, first.name, code, impl.OK)
			told := impl.ErrVersion
			if first.name == "delete" {
				told = impl.ErrNone
			}
			y, ver, code := second.do(x, 7)
			wantCode(t, first.name+" then "+second.name, code, told)
			wantStore(t, first.name+" then "+second.name, y, x)
			if ver != 0 {
				t.Error(first.name, second.name, "version", ver)
			}
		}
	}
}

func TestP2TheSecondOfTwoNewKeysIsTold(t *testing.T) {
	x, _ := mustPut(t, mixedStore(), "c", "mine")
	y, ver, code := impl.PutAbsent(x, "c", "yours")
	if ver != 0 || code != impl.ErrThere {
		t.Error("PutAbsent", ver, code)
	}
	wantStore(t, "PutAbsent", y, x)
}

func TestP2AVersionIsNeverGivenAgain(t *testing.T) {
	s, old := mustPut(t, impl.NewStore(), "a", "one")
	s, code := impl.DeleteVersion(s, "a", old)
	wantCode(t, "DeleteVersion", code, impl.OK)
	s, fresh := mustPut(t, s, "a", "one")
	if fresh == old {
		t.Error("version", fresh, "twice")
	}
	for _, c := range []change{
		{"put", func(s impl.Store, ver int) (impl.Store, int, int) { return impl.PutVersion(s, "a", ver, "two") }},
		{"delete", func(s impl.Store, ver int) (impl.Store, int, int) {
			x, code := impl.DeleteVersion(s, "a", ver)
			return x, 0, code
		}},
	} {
		x, ver, code := c.do(s, old)
		if ver != 0 || code != impl.ErrVersion {
			t.Error(c.name, ver, code)
		}
		wantStore(t, c.name, x, s)
	}
}

// pages reads all pages of n keys, each behind the last key of the one ahead.
func pages(t *testing.T, s impl.Store, prefix string, n int) []string {
	t.Helper()
	var all []string
	after := ""
	for range len(s.Objects) + 1 {
		page, code := impl.ListKeys(s, prefix, after, n)
		if code != impl.OK || len(page) > n {
			t.Fatalf("ListKeys(%q, %q, %d) = %v, %d", prefix, after, n, page, code)
		}
		if len(page) == 0 {
			return all
		}
		all = append(all, page...)
		after = page[len(page)-1]
	}
	t.Fatal("pages without end", prefix, n)
	return nil
}

func keysWith(s impl.Store, prefix string) []string {
	var keys []string
	for _, o := range s.Objects {
		if strings.HasPrefix(o.Key, prefix) {
			keys = append(keys, o.Key)
		}
	}
	return keys
}

func TestP2KeysPageByPageEachOnce(t *testing.T) {
	for _, s := range []impl.Store{impl.NewStore(), mixedStore(), numberedStore(1), numberedStore(17), numberedStore(impl.MaxObjects)} {
		for _, prefix := range []string{"", "a", "a-", "a-b", "a-bc", "k/0000", "k/00001", "k/000016", "z", "A", text(impl.MaxText)} {
			for _, n := range []int{1, 2, 3, 16, 17, 18, impl.MaxObjects - 1, impl.MaxObjects} {
				if got := pages(t, s, prefix, n); !slices.Equal(got, keysWith(s, prefix)) {
					t.Errorf("pages of %.10q by %d: %v", prefix, n, got)
				}
			}
		}
	}
}

func TestListKeysBehind(t *testing.T) {
	s := mixedStore()
	for _, c := range []struct {
		prefix, after string
		n             int
		want          []string
	}{
		{"", "", 5, []string{"-", "a", "a-b", "a/b", "b0"}},
		{"", "-", 5, []string{"a", "a-b", "a/b", "b0"}},
		{"", "a", 5, []string{"a-b", "a/b", "b0"}},
		{"", "a-", 5, []string{"a-b", "a/b", "b0"}},
		{"", "a-c", 1, []string{"a/b"}},
		{"a", "", 5, []string{"a", "a-b", "a/b"}},
		{"a", "", 2, []string{"a", "a-b"}},
		{"a", "a/b", 5, nil},
		{"a", "!", 5, []string{"a", "a-b", "a/b"}},
		{"a/b", "", 5, []string{"a/b"}},
		{"a/b0", "", 5, nil},
		{"", "b0", 5, nil},
		{"", "b", 5, []string{"b0"}},
		{"", "A no key\xff", 5, []string{"a", "a-b", "a/b", "b0"}},
		{"", "\xff", 5, nil},
		{" ", "", 5, nil},
		{"", "", 0, nil},
		{"", text(impl.MaxText), 5, []string{"b0"}},
	} {
		got, code := impl.ListKeys(s, c.prefix, c.after, c.n)
		if code != impl.OK || !slices.Equal(got, c.want) {
			t.Errorf("ListKeys(%q, %.20q, %d) = %v, %d, want %v", c.prefix, c.after, c.n, got, code, c.want)
		}
	}
}

func TestSameStore(t *testing.T) {
	others := []impl.Store{{}, impl.NewStore(), {Next: 10}, mixedStore(), numberedStore(5), numberedStore(impl.MaxList + 1), {Next: -3, Objects: []impl.Object{{}, {}}}}
	for _, edit := range []func(s *impl.Store){
		func(s *impl.Store) { s.Next++ },
		func(s *impl.Store) { s.Objects[4].Key = "b1" },
		func(s *impl.Store) { s.Objects[0].Ver = 8 },
		func(s *impl.Store) { s.Objects[2].Data = "One" },
		func(s *impl.Store) { s.Objects = s.Objects[:4] },
		func(s *impl.Store) { s.Objects[0], s.Objects[1] = s.Objects[1], s.Objects[0] },
	} {
		s := mixedStore()
		edit(&s)
		others = append(others, s)
	}
	for i, a := range others {
		for k, b := range others {
			if got := impl.SameStore(a, copied(b)); got != (i == k) {
				t.Error("SameStore", i, k, got)
			}
		}
	}
	if !impl.SameStore(impl.Store{Next: 1, Objects: []impl.Object{}}, impl.NewStore()) {
		t.Error("an empty list and nil are the same")
	}
}
