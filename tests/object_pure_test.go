package tests

import (
	"fmt"
	"math"
	"slices"
	"testing"

	"loop.example/g00601/impl"
)

// spare is how many objects a guarded store has behind its end.
const spare = 4

var junk = impl.Object{Key: "junk", Ver: -7, Data: "junk"}

// guarded is a store in memory of its own, with junk behind the end of its list.
func guarded(s impl.Store) impl.Store {
	room := make([]impl.Object, len(s.Objects), len(s.Objects)+spare)
	copy(room, s.Objects)
	g := impl.Store{Objects: room, Next: s.Next}
	fill(room[len(room):cap(room)])
	return g
}

func fill(list []impl.Object) {
	for i := range list {
		list[i] = junk
	}
}

// untouched tells whether a guarded store of s is as it was made, behind its end too.
func untouched(g, s impl.Store) bool {
	whole := g.Objects[:cap(g.Objects)]
	for _, o := range whole[len(s.Objects):] {
		if o != junk {
			return false
		}
	}
	return g.Next == s.Next && len(whole) == len(s.Objects)+spare && slices.Equal(whole[:len(s.Objects)], s.Objects)
}

// given is all that one call answers; a call leaves out what it has none of.
type given struct {
	store impl.Store
	keys  []string
	rest  string
}

func (g given) text() string { return fmt.Sprintf("%v %q %s", g.store, g.keys, g.rest) }

type storeCall struct {
	name string
	do   func(s impl.Store) given
}

// storeCalls are all calls on a store, with arguments that lead to each of their codes.
func storeCalls() []storeCall {
	calls := []storeCall{
		{"StoreOK", func(s impl.Store) given { return given{rest: fmt.Sprint(impl.StoreOK(s))} }},
		{"SameStore", func(s impl.Store) given { return given{rest: fmt.Sprint(impl.SameStore(s, mixedStore()))} }},
		{"SameStore with itself", func(s impl.Store) given { return given{rest: fmt.Sprint(impl.SameStore(s, s))} }},
	}
	for _, key := range []string{"a", "a-b", "new", "zz", "k/000000", "k/000299", "", "A", text(impl.MaxText + 1)} {
		for _, ver := range []int{1, 4, 300, 0, math.MinInt, math.MaxInt} {
			for _, data := range []string{"", "x", text(impl.MaxData), text(impl.MaxData + 1), text(impl.MaxText + 1)} {
				for _, c := range keyCalls() {
					name := fmt.Sprintf("%s of %.10q, version %d, %d bytes", c.name, key, ver, len(data))
					calls = append(calls, storeCall{name, func(s impl.Store) given {
						x, v, d, code := c.do(s, key, ver, data)
						return given{store: x, rest: fmt.Sprint(v, d, code)}
					}})
				}
			}
		}
	}
	for _, prefix := range []string{"", "a", "k/", "A", text(impl.MaxText + 1)} {
		for _, n := range []int{0, 1, 3, impl.MaxObjects, -1, impl.MaxObjects + 1, math.MinInt, math.MaxInt} {
			calls = append(calls, storeCall{fmt.Sprintf("ListKeys of %.10q by %d", prefix, n), func(s impl.Store) given {
				keys, code := impl.ListKeys(s, prefix, "a", n)
				return given{keys: keys, rest: fmt.Sprint(code)}
			}})
		}
	}
	return calls
}

func pureStores() []impl.Store {
	late := mixedStore()
	late.Next = lastNext
	twice := mixedStore()
	twice.Objects[0].Ver = 4
	return []impl.Store{
		{}, impl.NewStore(), mixedStore(), late, twice,
		numberedStore(1), numberedStore(impl.MaxObjects), numberedStore(impl.MaxObjects + 1),
		{Next: math.MinInt, Objects: []impl.Object{{}}},
		{Next: math.MaxInt, Objects: []impl.Object{{Key: "b", Ver: math.MaxInt}, {Key: "a", Ver: math.MinInt}}},
	}
}

func TestP1NoCallChangesItsStore(t *testing.T) {
	for i, s := range pureStores() {
		for _, c := range storeCalls() {
			g := guarded(s)
			c.do(g)
			if !untouched(g, s) {
				t.Errorf("%s changes store %d", c.name, i)
			}
		}
	}
}

func TestP1AnswersShareNoMemory(t *testing.T) {
	for i, s := range pureStores() {
		for _, c := range storeCalls() {
			g := guarded(s)
			got := c.do(g)
			before := got.text()
			fill(g.Objects[:cap(g.Objects)])
			if got.text() != before {
				t.Errorf("%s of store %d answers its argument's memory", c.name, i)
			}
			g = guarded(s)
			got = c.do(g)
			fill(got.store.Objects[:cap(got.store.Objects)])
			if !untouched(g, s) {
				t.Errorf("%s of store %d lends its argument's memory", c.name, i)
			}
		}
	}
}

func TestP1AlikeArgumentsHaveAlikeAnswers(t *testing.T) {
	for i, s := range pureStores() {
		var first []string
		calls := storeCalls()
		for _, c := range calls {
			first = append(first, c.do(s).text())
		}
		// Backwards, so that each call has others ahead of it, and with another capacity.
		for k, c := range slices.Backward(calls) {
			if got := c.do(guarded(s)).text(); got != first[k] {
				t.Errorf("%s of store %d hangs on what was called ahead", c.name, i)
			}
		}
	}
}

func TestP1NilAndEmptyAreTheSame(t *testing.T) {
	for _, next := range []int{0, 1, 5, lastNext} {
		for _, c := range storeCalls() {
			none, empty := c.do(impl.Store{Next: next}).text(), c.do(impl.Store{Next: next, Objects: []impl.Object{}}).text()
			if none != empty {
				t.Errorf("%s: %s of nil, %s of an empty list", c.name, none, empty)
			}
		}
	}
}

func TestP1StoresOfOneRunStayApart(t *testing.T) {
	s, _ := mustPut(t, numberedStore(9), "z", "")
	a, _ := mustPut(t, s, "za", "mine")
	b, _ := mustPut(t, s, "zb", "yours")
	if a.Objects[10].Key != "za" || b.Objects[10].Key != "zb" || len(s.Objects) != 10 {
		t.Error("two puts on one store", a, b)
	}
}

func TestP1NewStoresStayApart(t *testing.T) {
	a := impl.NewStore()
	a.Objects = append(a.Objects, junk)
	a.Next = 5
	if b := impl.NewStore(); len(b.Objects) != 0 || b.Next != 1 {
		t.Error("NewStore", b)
	}
}

func TestP1WordsAndNamesHangOnNothing(t *testing.T) {
	for range 2 {
		for code := -2; code < 25; code++ {
			word := impl.CodeWord(code)
			if back := impl.CodeOf(word); word != "" && back != code || word == "" && back != -1 {
				t.Error(code, word, back)
			}
			if impl.NameOK(word) != (word != "") {
				t.Error("NameOK", word)
			}
		}
	}
}
