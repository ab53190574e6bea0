package tests

import (
	"fmt"
	"maps"
	"math/rand"
	"slices"
	"strings"
	"testing"

	"loop.example/g00601/impl"
)

// withObjects is s with these objects laid in, put there without the program.
func withObjects(s impl.Store, data map[string]string) impl.Store {
	x := copied(s)
	for _, key := range slices.Sorted(maps.Keys(data)) {
		x.Objects = append(x.Objects, impl.Object{Key: key, Ver: x.Next, Data: data[key]})
		x.Next++
	}
	slices.SortFunc(x.Objects, func(a, b impl.Object) int { return strings.Compare(a.Key, b.Key) })
	return x
}

func recordName(n int) string { return fmt.Sprintf("man/%06d", n) }

// logged is s with these texts as its records, from 1 on.
func logged(s impl.Store, texts ...string) impl.Store {
	data := map[string]string{}
	for i, text := range texts {
		data[recordName(i+1)] = text
	}
	return withObjects(s, data)
}

// plainLog is the state that texts lead to.
func plainLog(texts []string) impl.State {
	s := impl.State{}
	for _, text := range texts {
		if r, ok := plainRecordOf(text); ok && plainTakes(s, r) {
			s = plainDone(s, r)
		} else {
			s.Seq++
		}
	}
	return s
}

func wantReplayed(t *testing.T, what string, x impl.Store, want impl.State, wantCode int) {
	t.Helper()
	if got, code := impl.ReplayLog(x); !alikeStates(got, want) || code != wantCode {
		t.Errorf("%s: state %v, code %d, want %v, code %d", what, got, code, want, wantCode)
	}
}

// shortLog leads through all kinds of records.
func shortLog() []string {
	return []string{
		"1,0,0,0,7 raw/000001-000002", "2,3,0,0,0 ", "3,3,1,0,5 t1/000000-000003", "1,0,0,7,25 raw/000004-000003", "3,3,1,5,10 t1/000005-000003",
		"4,3,0,0,7 raw/000001-000002", "5,0,0,0,0 raw/000001-000002", "3,2,1,10,15 t1/000010-000002", "2,4,0,0,0 ", "3,4,1,10,15 t1/000010-000004",
	}
}

func TestP7LogsAreReplayed(t *testing.T) {
	want := impl.State{
		Seq: 10, Fence: 4, Low: [3]int{7, 0, 0}, High: [3]int{25, 15, 0},
		Entries: []impl.Entry{
			{Tier: 1, From: 0, To: 5, Key: "t1/000000-000003"}, {From: 7, To: 25, Key: "raw/000004-000003"},
			{Tier: 1, From: 5, To: 10, Key: "t1/000005-000003"}, {Tier: 1, From: 10, To: 15, Key: "t1/000010-000004"},
		},
	}
	texts := shortLog()
	wantReplayed(t, "all of it", logged(mixedStore(), texts...), want, impl.OK)
	for n := range len(texts) + 1 {
		wantReplayed(t, fmt.Sprint("the first ", n), logged(mixedStore(), texts[:n]...), plainLog(texts[:n]), impl.OK)
	}
	rests := plainLog(texts[:6])
	if len(rests.Tombs) != 1 || rests.Tombs[0] != (impl.Tomb{Seq: 6, Key: "raw/000001-000002"}) {
		t.Error("at rest", rests.Tombs)
	}
}

func TestP7LogsWithoutRecords(t *testing.T) {
	for _, x := range rightStores() {
		wantReplayed(t, "no record", x, impl.State{}, impl.OK)
	}
	for _, key := range []string{"man", "man/", "man/000000", "man/000002", "man/1", "man/00001", "man/0000001", "man/000001-", "man/000001/", "man-000001", "man/999999", "000001", "raw/000001-000002", "manx000001", "xman/000001"} {
		wantReplayed(t, "an object "+key, withObjects(mixedStore(), map[string]string{key: "2,1,0,0,0 "}), impl.State{}, impl.OK)
	}
}

// From a number that is not there on nothing counts.
func TestP7LogsWithAGap(t *testing.T) {
	texts := shortLog()
	whole := logged(mixedStore(), texts...)
	for gap := range len(texts) {
		x := copied(whole)
		x.Objects = slices.DeleteFunc(x.Objects, func(o impl.Object) bool { return o.Key == recordName(gap+1) })
		wantReplayed(t, fmt.Sprint("without record ", gap+1), x, plainLog(texts[:gap]), impl.OK)
	}
	behind := withObjects(whole, map[string]string{recordName(12): "2,9,0,0,0 ", recordName(999999): "2,9,0,0,0 "})
	wantReplayed(t, "behind a gap", behind, plainLog(texts), impl.OK)
}

func TestP7RecordsThatCannotBeReadCount(t *testing.T) {
	texts := shortLog()
	for _, none := range noRecords() {
		for at := range len(texts) {
			damaged := slices.Clone(texts)
			damaged[at] = none
			wantReplayed(t, fmt.Sprintf("record %d being %.30q", at+1, none), logged(mixedStore(), damaged...), plainLog(damaged), impl.OK)
		}
		wantReplayed(t, "it alone", logged(impl.NewStore(), none), impl.State{Seq: 1}, impl.OK)
	}
	wantReplayed(t, "none can be read", logged(impl.NewStore(), "", "what", "1"), impl.State{Seq: 3}, impl.OK)
	wantReplayed(t, "one behind them", logged(impl.NewStore(), "", "what", "2,7,0,0,0 "), impl.State{Seq: 3, Fence: 7}, impl.OK)
}

func TestP7LogsOfStoresThatAreNotRight(t *testing.T) {
	for _, x := range wrongLogStores() {
		wantReplayed(t, "a store that is not right", x, impl.State{}, impl.ErrBad)
	}
}

// wrongLogStores are stores that are not right, with records in some.
func wrongLogStores() []impl.Store {
	stores := wrongStores()
	for _, spoil := range []func(x *impl.Store){
		func(x *impl.Store) { x.Next = 1 },
		func(x *impl.Store) { x.Objects[0].Ver = x.Objects[1].Ver },
		func(x *impl.Store) { x.Objects[5], x.Objects[6] = x.Objects[6], x.Objects[5] },
		func(x *impl.Store) { x.Objects = append(x.Objects, x.Objects[len(x.Objects)-1]) },
		func(x *impl.Store) { x.Objects[len(x.Objects)-1].Data += text(impl.MaxData) },
	} {
		x := logged(mixedStore(), shortLog()...)
		spoil(&x)
		stores = append(stores, x)
	}
	return stores
}

// The longest log that a store can have, of records that are taken, and of some that are not.
func TestP7TheLongestLog(t *testing.T) {
	var texts []string
	for i := range impl.MaxObjects {
		texts = append(texts, recordWritten(adding(i, i+1, keyed(0, i+1, 2))))
	}
	x := logged(impl.NewStore(), texts...)
	want := plainLog(texts)
	if want.High[0] != 300 || len(want.Entries) != 300 || !impl.StoreOK(x) {
		t.Fatal("the plain state", want.High)
	}
	wantReplayed(t, "all taken", x, want, impl.OK)
	texts[0] = "what"
	wantReplayed(t, "none taken", logged(impl.NewStore(), texts...), impl.State{Seq: 300}, impl.OK)
}

// wantAppended checks that a record is put under its number, and nothing else is done.
func wantAppended(t *testing.T, x impl.Store, seq int, r impl.Record) impl.Store {
	t.Helper()
	y, code := impl.AppendRecord(x, seq, r)
	want := withObjects(x, map[string]string{recordName(seq): recordWritten(r)})
	if code != impl.OK || !alike(y, want) {
		t.Errorf("AppendRecord of %v as %d: code %d, store as wanted: %v", r, seq, code, alike(y, want))
	}
	return y
}

func wantNotAppended(t *testing.T, what string, x impl.Store, seq int, r impl.Record, want int, store impl.Store) {
	t.Helper()
	if y, code := impl.AppendRecord(x, seq, r); code != want || !alike(y, store) {
		t.Errorf("%s: AppendRecord of %.100s as %d: code %d, want %d; store as wanted: %v", what, fmt.Sprint(r), seq, code, want, alike(y, store))
	}
}

func TestP7RecordsArePutUnderTheirNumbers(t *testing.T) {
	for _, x := range []impl.Store{impl.NewStore(), mixedStore(), logged(mixedStore(), shortLog()...)} {
		for _, seq := range []int{11, 12, 99, 100, 123456, 999998, 999999} {
			for _, r := range rightRecords() {
				wantAppended(t, x, seq, r)
			}
		}
	}
	// Whether the log will take it, and whether there is a gap, is not asked.
	wantAppended(t, impl.NewStore(), 1, claiming(1))
	wantAppended(t, impl.NewStore(), 2, publishing(9, 2, 7, 8))
	for _, r := range rightRecords() {
		wantAppended(t, mixedStore(), 1, r)
	}
}

func TestP7NumbersBeyondTheirBounds(t *testing.T) {
	full := numberedStore(impl.MaxObjects)
	for _, seq := range []int{0, -1, 1000000, 1000001, 1<<32 + 1, -1 << 63, 1<<63 - 1} {
		for _, x := range []impl.Store{impl.NewStore(), mixedStore(), full, logged(impl.NewStore(), shortLog()...)} {
			wantNotAppended(t, "out of bounds", x, seq, claiming(1), impl.ErrRange, impl.Store{})
		}
		// ErrBad comes ahead of it, of the store and of the record.
		wantNotAppended(t, "a wrong store", impl.Store{}, seq, claiming(1), impl.ErrBad, impl.Store{})
		wantNotAppended(t, "no record", mixedStore(), seq, claiming(0), impl.ErrBad, impl.Store{})
	}
}

func TestP7AppendingWhatIsNotRight(t *testing.T) {
	for _, x := range wrongLogStores() {
		for _, seq := range []int{1, 2, 11, 999999} {
			wantNotAppended(t, "a wrong store", x, seq, claiming(1), impl.ErrBad, impl.Store{})
			wantNotAppended(t, "a wrong store and no record", x, seq, impl.Record{}, impl.ErrBad, impl.Store{})
		}
	}
	for _, r := range wrongRecords() {
		for _, x := range []impl.Store{impl.NewStore(), numberedStore(impl.MaxObjects), logged(mixedStore(), shortLog()...)} {
			wantNotAppended(t, "no record", x, 1, r, impl.ErrBad, impl.Store{})
		}
	}
}

func TestP7NumbersThatAreThereAlready(t *testing.T) {
	x := logged(mixedStore(), shortLog()...)
	late := copied(x)
	late.Next = lastNext
	for seq := 1; seq <= 10; seq++ {
		for _, r := range []impl.Record{claiming(9), adding(0, 7, keyed(0, 1, 2)), purging(keyed(0, 1, 2))} {
			wantNotAppended(t, "a number that is there", x, seq, r, impl.ErrThere, x)
			wantNotAppended(t, "and no version left", late, seq, r, impl.ErrThere, late)
		}
	}
	last := withObjects(mixedStore(), map[string]string{recordName(999999): "what"})
	wantNotAppended(t, "the last number", last, 999999, claiming(1), impl.ErrThere, last)
	whole := logged(numberedStore(impl.MaxObjects-10), shortLog()...)
	wantNotAppended(t, "a full store", whole, 10, claiming(5), impl.ErrThere, whole)
	wantNotAppended(t, "a full store", whole, 11, claiming(5), impl.ErrFull, whole)
}

func TestP7LogsOfStoresThatAreFull(t *testing.T) {
	for _, x := range fullStores() {
		for _, seq := range []int{1, 999999} {
			wantNotAppended(t, "a full store", x, seq, claiming(1), impl.ErrFull, x)
		}
	}
	wantAppended(t, numberedStore(impl.MaxObjects-1), 1, claiming(1))
	last := mixedStore()
	last.Next = lastNext - 1
	wantAppended(t, last, 1, claiming(1))
}

// What is appended one after the other is replayed to what applying leads to.
func TestP7WhatIsAppendedIsReplayed(t *testing.T) {
	for seed := range 6 {
		r := rand.New(rand.NewSource(int64(seed)))
		x, s := impl.NewStore(), impl.State{}
		for s.Seq < 120 {
			list := hopeful(r, s)
			rec := list[r.Intn(len(list))]
			if r.Intn(4) == 0 {
				rec = somewhatOff(r, s, rec)
			}
			if !plainRecord(rec) {
				continue
			}
			x = wantAppended(t, x, s.Seq+1, rec)
			s = applied(t, "appended", s, rec, plainTakes(s, rec))
			wantReplayed(t, "appended", x, s, impl.OK)
			if t.Failed() {
				t.Fatalf("seed %d, record %d", seed, s.Seq)
			}
		}
	}
}
