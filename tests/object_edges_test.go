package tests

import (
	"fmt"
	"math"
	"testing"

	"loop.example/g00601/impl"
)

func TestLimitsOfTheStore(t *testing.T) {
	if impl.MaxObjects != 300 || impl.MaxData != 600 || impl.MaxKey != 30 {
		t.Error(impl.MaxObjects, impl.MaxData, impl.MaxKey)
	}
}

func TestKeys(t *testing.T) {
	for b := range 256 {
		want := b >= 'a' && b <= 'z' || b >= '0' && b <= '9' || b == '/' || b == '-'
		for _, key := range []string{string([]byte{byte(b)}), string([]byte{'a', byte(b), 'a'})} {
			if got := impl.KeyOK(key); got != want {
				t.Errorf("KeyOK(%q) = %v", key, got)
			}
		}
	}
	for n, want := range map[int]bool{0: false, 1: true, impl.MaxKey: true, impl.MaxKey + 1: false, impl.MaxText: false, impl.MaxText + 1: false} {
		if got := impl.KeyOK(text(n)); got != want {
			t.Errorf("KeyOK of %d bytes = %v", n, got)
		}
	}
}

// oneObject is a store with a single object.
func oneObject(key string, ver int, data string, next int) impl.Store {
	return impl.Store{Next: next, Objects: []impl.Object{{Key: key, Ver: ver, Data: data}}}
}

func rightStores() []impl.Store {
	return []impl.Store{
		impl.NewStore(),
		{Next: 1, Objects: []impl.Object{}},
		{Next: lastNext},
		mixedStore(),
		numberedStore(impl.MaxObjects),
		oneObject("a", 1, "", 2),
		oneObject("a", 1, "", lastNext),
		oneObject("a", lastNext-1, "", lastNext),
		oneObject(text(impl.MaxKey), 1, "", 2),
		oneObject("a", 1, text(impl.MaxData), 2),
	}
}

func wrongStores() []impl.Store {
	huge := numberedStore(1)
	huge.Objects[0].Data = text(impl.MaxText + 1)
	return []impl.Store{
		{},
		{Next: -1},
		{Next: math.MinInt},
		{Next: lastNext + 1},
		{Next: math.MaxInt},
		numberedStore(impl.MaxObjects + 1),
		numberedStore(impl.MaxList),
		numberedStore(impl.MaxList + 1),
		oneObject("a", 0, "", 9),
		oneObject("a", -1, "", 9),
		oneObject("a", math.MinInt, "", 9),
		oneObject("a", 9, "", 9),
		oneObject("a", math.MaxInt, "", 9),
		oneObject("a", 1, "", 1),
		oneObject("a", lastNext, "", lastNext),
		oneObject("", 1, "", 9),
		oneObject("A", 1, "", 9),
		oneObject(text(impl.MaxKey+1), 1, "", 9),
		oneObject("a", 1, text(impl.MaxData+1), 9),
		huge,
		{Next: 9, Objects: []impl.Object{{Key: "b", Ver: 1}, {Key: "a", Ver: 2}}},
		{Next: 9, Objects: []impl.Object{{Key: "a", Ver: 1}, {Key: "a", Ver: 2}}},
		{Next: 9, Objects: []impl.Object{{Key: "ab", Ver: 1}, {Key: "a", Ver: 2}}},
		{Next: 9, Objects: []impl.Object{{Key: "a", Ver: 1}, {Key: "c", Ver: 2}, {Key: "b", Ver: 3}}},
		{Next: 9, Objects: []impl.Object{{Key: "a", Ver: 1}, {Key: "b", Ver: 1}}},
		{Next: 9, Objects: []impl.Object{{Key: "a", Ver: 1}, {Key: "b", Ver: 2}, {Key: "c", Ver: 1}}},
	}
}

func TestStoreOK(t *testing.T) {
	for i, s := range rightStores() {
		if !impl.StoreOK(s) {
			t.Error("right store", i)
		}
	}
	for i, s := range wrongStores() {
		if impl.StoreOK(s) {
			t.Error("wrong store", i)
		}
	}
}

// keyCall is a call on a key, told apart by what it answers beside its code.
type keyCall struct {
	name string
	do   func(s impl.Store, key string, ver int, data string) (impl.Store, int, string, int)
}

func keyCalls() []keyCall {
	return []keyCall{
		{"GetObject", func(s impl.Store, key string, _ int, _ string) (impl.Store, int, string, int) {
			d, v, code := impl.GetObject(s, key)
			return impl.Store{}, v, d, code
		}},
		{"PutAbsent", func(s impl.Store, key string, _ int, data string) (impl.Store, int, string, int) {
			x, v, code := impl.PutAbsent(s, key, data)
			return x, v, "", code
		}},
		{"PutVersion", func(s impl.Store, key string, ver int, data string) (impl.Store, int, string, int) {
			x, v, code := impl.PutVersion(s, key, ver, data)
			return x, v, "", code
		}},
		{"DeleteVersion", func(s impl.Store, key string, ver int, _ string) (impl.Store, int, string, int) {
			x, code := impl.DeleteVersion(s, key, ver)
			return x, 0, "", code
		}},
	}
}

// wantZero runs a call that is told a code ahead of its own, beside which all is zero.
func wantZero(t *testing.T, c keyCall, s impl.Store, key, data string, want int) {
	t.Helper()
	what := fmt.Sprintf("%s of a key of %d bytes, data of %d", c.name, len(key), len(data))
	x, ver, d, code := c.do(s, key, 1, data)
	wantCode(t, what, code, want)
	wantStore(t, what, x, impl.Store{})
	if ver != 0 || d != "" {
		t.Errorf("%s: version %d, data %q", what, ver, d)
	}
}

func TestLongAheadOfBadAheadOfKey(t *testing.T) {
	long, noKeys := text(impl.MaxText+1), []string{"", "A", "a_", "a b", text(impl.MaxKey + 1), text(impl.MaxText)}
	for _, c := range keyCalls() {
		for _, s := range append(wrongStores(), rightStores()...) {
			wantZero(t, c, s, long, "", impl.ErrLong)
		}
		for _, s := range wrongStores() {
			for _, key := range append(noKeys, "a") {
				wantZero(t, c, s, key, "", impl.ErrBad)
			}
		}
		for _, s := range rightStores() {
			for _, key := range noKeys {
				wantZero(t, c, s, key, "", impl.ErrKey)
			}
		}
	}
}

func TestLongDataAheadOfAllCodes(t *testing.T) {
	long, big := text(impl.MaxText+1), text(impl.MaxText)
	for _, c := range keyCalls()[1:3] {
		for _, s := range append(wrongStores(), rightStores()...) {
			for _, key := range []string{"", "a", "-", long} {
				wantZero(t, c, s, key, long, impl.ErrLong)
			}
		}
		for _, s := range wrongStores() {
			wantZero(t, c, s, "", big, impl.ErrBad)
		}
		wantZero(t, c, mixedStore(), "", big, impl.ErrKey)
	}
}

// fullStores have room for no new key, for no version, and for neither.
func fullStores() []impl.Store {
	late, both := mixedStore(), numberedStore(impl.MaxObjects)
	late.Next, both.Next = lastNext, lastNext
	return []impl.Store{numberedStore(impl.MaxObjects), late, both}
}

// wantAsItWas is what a put answers beside the codes of its own.
func wantAsItWas(t *testing.T, what string, was, got impl.Store, ver int) {
	t.Helper()
	wantStore(t, what, got, was)
	if ver != 0 {
		t.Error(what, "version", ver)
	}
}

func TestPutAbsentCodesInOrder(t *testing.T) {
	big := text(impl.MaxData + 1)
	for i, s := range append(fullStores(), mixedStore()) {
		full := impl.ErrFull
		if i == 3 {
			full = impl.OK
		}
		for _, c := range []struct {
			key, data string
			want      int
		}{
			{s.Objects[0].Key, "", impl.ErrThere},
			{s.Objects[0].Key, big, impl.ErrThere},
			{s.Objects[len(s.Objects)-1].Key, text(impl.MaxText), impl.ErrThere},
			{"new", big, impl.ErrSize},
			{"new", text(impl.MaxText), impl.ErrSize},
			{"new", text(impl.MaxData), full},
			{"new", "", full},
		} {
			what := fmt.Sprintf("PutAbsent %d %q, %d bytes", i, c.key, len(c.data))
			x, ver, code := impl.PutAbsent(s, c.key, c.data)
			wantCode(t, what, code, c.want)
			if code != impl.OK {
				wantAsItWas(t, what, s, x, ver)
			}
		}
	}
}

func TestPutVersionCodesInOrder(t *testing.T) {
	big := text(impl.MaxData + 1)
	for i, s := range append(fullStores(), mixedStore()) {
		o, full := s.Objects[0], impl.ErrFull
		if s.Next != lastNext {
			full = impl.OK
		}
		for _, c := range []struct {
			key  string
			ver  int
			data string
			want int
		}{
			{"new", o.Ver, big, impl.ErrNone},
			{"new", math.MaxInt, "", impl.ErrNone},
			{o.Key, o.Ver + 1, big, impl.ErrVersion},
			{o.Key, o.Ver - 1, "", impl.ErrVersion},
			{o.Key, 0, "", impl.ErrVersion},
			{o.Key, -o.Ver, "", impl.ErrVersion},
			{o.Key, s.Next, "", impl.ErrVersion},
			{o.Key, math.MinInt, "", impl.ErrVersion},
			{o.Key, math.MaxInt, text(impl.MaxText), impl.ErrVersion},
			{o.Key, o.Ver, big, impl.ErrSize},
			{o.Key, o.Ver, text(impl.MaxData), full},
			{o.Key, o.Ver, "", full},
		} {
			what := fmt.Sprintf("PutVersion %d %q %d, %d bytes", i, c.key, c.ver, len(c.data))
			x, ver, code := impl.PutVersion(s, c.key, c.ver, c.data)
			wantCode(t, what, code, c.want)
			if code != impl.OK {
				wantAsItWas(t, what, s, x, ver)
			}
		}
	}
}

func TestDeleteVersionCodesInOrder(t *testing.T) {
	for i, s := range append(fullStores(), mixedStore()) {
		o := s.Objects[1]
		for _, c := range []struct {
			key  string
			ver  int
			want int
		}{
			{"new", o.Ver, impl.ErrNone},
			{"new", 0, impl.ErrNone},
			{o.Key, o.Ver - 1, impl.ErrVersion},
			{o.Key, 0, impl.ErrVersion},
			{o.Key, s.Next, impl.ErrVersion},
			{o.Key, math.MinInt, impl.ErrVersion},
			{o.Key, math.MaxInt, impl.ErrVersion},
		} {
			what := fmt.Sprintf("DeleteVersion %d %q %d", i, c.key, c.ver)
			x, code := impl.DeleteVersion(s, c.key, c.ver)
			wantCode(t, what, code, c.want)
			wantStore(t, what, x, s)
		}
		x, code := impl.DeleteVersion(s, o.Key, o.Ver)
		if code != impl.OK || x.Next != s.Next || len(x.Objects) != len(s.Objects)-1 || !impl.StoreOK(x) {
			t.Error("DeleteVersion of a full store", i, code)
		}
	}
}

func TestTheLastVersion(t *testing.T) {
	s := oneObject("a", lastNext-2, "", lastNext-1)
	for _, c := range []struct {
		name string
		put  func(s impl.Store) (impl.Store, int, int)
	}{
		{"PutAbsent", func(s impl.Store) (impl.Store, int, int) { return impl.PutAbsent(s, "b", "x") }},
		{"PutVersion", func(s impl.Store) (impl.Store, int, int) { return impl.PutVersion(s, "a", lastNext-2, "x") }},
	} {
		x, ver, code := c.put(s)
		if ver != lastNext-1 || code != impl.OK || x.Next != lastNext || !impl.StoreOK(x) {
			t.Error(c.name, ver, code, x)
		}
		y, ver, code := impl.PutAbsent(x, "c", "")
		if ver != 0 || code != impl.ErrFull {
			t.Error(c.name, "and one more", ver, code)
		}
		wantStore(t, c.name, y, x)
	}
}

func TestTheLastRoomForAKey(t *testing.T) {
	s := numberedStore(impl.MaxObjects - 1)
	x, ver := mustPut(t, s, "a", "")
	if len(x.Objects) != impl.MaxObjects || ver != impl.MaxObjects || x.Objects[0].Key != "a" || !impl.StoreOK(x) {
		t.Error("PutAbsent", ver, len(x.Objects))
	}
	y, _, code := impl.PutAbsent(x, "b", "")
	wantCode(t, "one more", code, impl.ErrFull)
	wantStore(t, "one more", y, x)
	z, ver, code := impl.PutVersion(x, "a", impl.MaxObjects, "new")
	if ver != impl.MaxObjects+1 || code != impl.OK || len(z.Objects) != impl.MaxObjects {
		t.Error("PutVersion of a full store", ver, code)
	}
}

func TestListKeysCodesInOrder(t *testing.T) {
	long := text(impl.MaxText + 1)
	for _, c := range []struct {
		what, prefix, after string
		wrong               bool
		n, want             int
	}{
		{"prefix", long, "", true, -1, impl.ErrLong},
		{"after", "", long, true, -1, impl.ErrLong},
		{"prefix alone", long, "", false, 1, impl.ErrLong},
		{"after alone", "", long, false, 1, impl.ErrLong},
		{"store ahead of n", "", "", true, -1, impl.ErrBad},
		{"store", text(impl.MaxText), text(impl.MaxText), true, 1, impl.ErrBad},
		{"n -1", "", "", false, -1, impl.ErrRange},
		{"n 301", "", "", false, impl.MaxObjects + 1, impl.ErrRange},
		{"n least", "", "", false, math.MinInt, impl.ErrRange},
		{"n greatest", text(impl.MaxText), "", false, math.MaxInt, impl.ErrRange},
		{"n 0", "", "", false, 0, impl.OK},
		{"n 300", "", "", false, impl.MaxObjects, impl.OK},
		{"no keys", "A b", "\xff", false, 1, impl.OK},
	} {
		stores := rightStores()
		if c.wrong {
			stores = wrongStores()
		}
		for _, s := range stores {
			keys, code := impl.ListKeys(s, c.prefix, c.after, c.n)
			wantCode(t, "ListKeys "+c.what, code, c.want)
			if code != impl.OK && len(keys) != 0 {
				t.Error("ListKeys", c.what, keys)
			}
		}
	}
	if keys, code := impl.ListKeys(numberedStore(impl.MaxObjects), "", "", impl.MaxObjects); len(keys) != impl.MaxObjects || code != impl.OK {
		t.Error("ListKeys of a full store", len(keys), code)
	}
}
