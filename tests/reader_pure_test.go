package tests

import (
	"fmt"
	"slices"
	"testing"

	"loop.example/g00601/impl"
)

// guardedReader is a reader in memory of its own, with junk behind the end of its list.
func guardedReader(r impl.Reader) impl.Reader {
	r.Left = guardedList(r.Left, junkEntry)
	return r
}

// untouchedReader tells whether a guarded reader of r is as it was made, behind the end too.
func untouchedReader(g, r impl.Reader) bool {
	return alikeReaders(g, r) && untouchedList(g.Left, r.Left, junkEntry)
}

// fillReader writes junk over the list of a reader, up to the end of its memory.
func fillReader(r impl.Reader) {
	for i := range r.Left[:cap(r.Left)] {
		r.Left[:cap(r.Left)][i] = junkEntry
	}
}

func pureReaders() []impl.Reader {
	list := append(baseReaders(), asking(4, 0, 33, 48), inReading(asking(4, 0, 33, 48), 2), inReading(asking(4, 1, 30, 50), 2), inReading(asking(4, 2, 0, 50), 2))
	for _, change := range []func(r *impl.Reader){
		func(r *impl.Reader) { r.Left = r.Left[:1] },
		func(r *impl.Reader) { r.Left = r.Left[:0] },
		func(r *impl.Reader) { r.Left = []impl.Entry{} },
		func(r *impl.Reader) { r.Left = slices.Repeat(r.Left, 150) },
		func(r *impl.Reader) { r.Left = slices.Repeat(r.Left, 3000) },
		func(r *impl.Reader) { r.Left[0].Key = text(impl.MaxText + 1) },
		func(r *impl.Reader) { r.Id, r.Phase, r.Until, r.Code = -1<<63, 1<<63-1, -1<<63, 1<<63-1 },
		func(r *impl.Reader) { r.Got.Count = 1<<63 - 1 },
	} {
		list = append(list, readerWith(busyReader(impl.RdIdle), change), readerWith(busyReader(impl.RdFetch), change))
	}
	return list
}

// pureReadStores are stores over which queries end with all their codes.
func pureReadStores(t *testing.T) []impl.Store {
	t.Helper()
	several, _ := queryStore(t)
	pinned := withObjects(several, map[string]string{"pin/4": "what", "pin/5": "40", "pin/6": "900", "pin/": "33"})
	return []impl.Store{
		{}, impl.NewStore(), mixedStore(), several, pinned, fullWith(several), fullWith(pinned), lateWith(pinned), fetchStore(), laid(fetchStore(), keyed(0, 3, 2), "what"),
		numberedStore(impl.MaxObjects + 1), {Next: 1<<63 - 1, Objects: []impl.Object{{Key: "pin/4", Ver: -1 << 63, Data: "40"}}},
	}
}

var readNows = []int{0, 37, 38, lastNow, -1, lastNow + 1, -1 << 63, 1<<63 - 1}

// readSaid is all that the calls of readers answer of a store, a reader and a now.
func readSaid(x impl.Store, r impl.Reader, now int) (impl.Store, impl.Reader, string) {
	y, v, over, code := impl.StepReader(x, r, now)
	said := fmt.Sprint(y, v, over, code, impl.ReaderOK(r), impl.SameReader(r, r), impl.SameReader(r, v))
	return y, v, said
}

func pureReaderKind(t *testing.T) actors[impl.Reader] {
	t.Helper()
	return actors[impl.Reader]{pureReaders(), pureReadStores(t), readNows, guardedReader, untouchedReader, fillReader, readSaid}
}

func TestP1NoQueryChangesItsStoreOrItsReader(t *testing.T) { pureReaderKind(t).wantUnchanged(t) }

func TestP1AlikeReadersHaveAlikeQueries(t *testing.T) { pureReaderKind(t).wantAlike(t) }

func TestP1QueriesOfOneReaderStayApart(t *testing.T) { pureReaderKind(t).wantApart(t) }

func TestP1NoReaderIsChangedByBeingAsked(t *testing.T) {
	spans := append(wrongSpans(), span{0, 20}, span{7, 9}, span{0, 100000})
	said := func(r impl.Reader, tier int, s span) (impl.Reader, string) {
		v, code := impl.AskReader(r, tier, s.from, s.to)
		return v, fmt.Sprint(v, code)
	}
	var first []string
	for k, r := range pureReaders() {
		for i, s := range spans {
			g := guardedReader(r)
			v, text := said(g, i%4, s)
			before := fmt.Sprint(v)
			if !untouchedReader(g, r) {
				t.Errorf("reader %d asked for %v: it is changed", k, s)
			}
			fillReader(g)
			if fmt.Sprint(v) != before {
				t.Errorf("reader %d asked for %v: its memory is answered", k, s)
			}
			g = guardedReader(r)
			v, _ = said(g, i%4, s)
			fillReader(v)
			if !untouchedReader(g, r) {
				t.Errorf("reader %d asked for %v: its memory is lent", k, s)
			}
			first = append(first, text)
		}
	}
	at := len(first)
	for _, r := range slices.Backward(pureReaders()) {
		for i, s := range slices.Backward(spans) {
			at--
			if _, text := said(r, i%4, s); text != first[at] {
				t.Errorf("asking %.200s for %v hangs on what was called ahead", fmt.Sprint(r), s)
			}
		}
	}
}

func TestP1ReadersOfNilAndOfEmptyLists(t *testing.T) {
	for phase := -1; phase <= 5; phase++ {
		none := readerWith(busyReader(phase), func(r *impl.Reader) { r.Left = nil })
		empty := readerWith(none, func(r *impl.Reader) { r.Left = []impl.Entry{} })
		pureReaderKind(t).wantSameOfEmpty(t, none, empty)
		for _, s := range rightSpans() {
			one, oneCode := wantAsked(t, "nil", none, 0, s)
			other, otherCode := wantAsked(t, "an empty list", empty, 0, s)
			if !alikeReaders(one, other) || oneCode != otherCode {
				t.Errorf("phase %d, %v: %v of nil, %v of an empty list", phase, s, one, other)
			}
		}
	}
}

func TestP1AlikePinsHaveAlikeAnswers(t *testing.T) {
	stores := append(pureReadStores(t), pureStores()...)
	said := func(x impl.Store, now int) ([]string, string) {
		keys, code := impl.PinsAt(x, now)
		return keys, fmt.Sprintf("%q %d", keys, code)
	}
	var first []string
	for i, x := range stores {
		for _, now := range append(readNows, 39, 46, 47, 906, 907) {
			g := guarded(x)
			keys, text := said(g, now)
			again, _ := said(g, now)
			before := fmt.Sprint(again)
			for k := range keys {
				keys[k] = "junk"
			}
			if !untouched(g, x) || fmt.Sprint(again) != before {
				t.Errorf("pins of store %d at %d: the store is changed, or two answers share memory", i, now)
			}
			first = append(first, text)
		}
	}
	at := len(first)
	for _, x := range slices.Backward(stores) {
		for _, now := range slices.Backward(append(readNows, 39, 46, 47, 906, 907)) {
			at--
			if _, text := said(x, now); text != first[at] {
				t.Errorf("pins at %d: %s, then %s", now, first[at], text)
			}
		}
	}
}

func TestP1NewReadersStayApart(t *testing.T) {
	a, _ := impl.NewReader(3)
	a.Left = append(a.Left, junkEntry)
	a.Until = 7
	if b, code := impl.NewReader(3); !alikeReaders(b, impl.Reader{Id: 3}) || code != impl.OK {
		t.Error("NewReader", b, code)
	}
}
