package tests

import (
	"fmt"
	"slices"
	"testing"

	"loop.example/g00601/impl"
)

// plainBatch is what the document says of samples.
func plainBatch(list []impl.Sample) bool {
	for i, s := range list {
		if s.T < 0 || s.T > 99999 || s.V < -1000000 || s.V > 1000000 || i > 0 && list[i-1].T >= s.T {
			return false
		}
	}
	return true
}

// plainIngester is what the document says of ingesters.
func plainIngester(g impl.Ingester) bool {
	switch {
	case g.Id < 0 || g.Id > 9 || len(g.Batch) > 8 || !plainBatch(g.Batch):
		return false
	case !g.Put:
		return g.Seq == 0 && g.From == 0 && g.To == 0
	case len(g.Batch) == 0:
		return false
	}
	return g.Seq >= 1 && g.Seq <= 999999 && g.From >= 0 && g.From <= g.Batch[0].T && g.To == g.Batch[len(g.Batch)-1].T+1
}

// alikeIngesters is what SameIngester ought to tell, and does not lean on it.
func alikeIngesters(a, b impl.Ingester) bool {
	return a.Id == b.Id && a.Seq == b.Seq && a.From == b.From && a.To == b.To && a.Put == b.Put && slices.Equal(a.Batch, b.Batch)
}

func copiedIngester(g impl.Ingester) impl.Ingester {
	g.Batch = slices.Clone(g.Batch)
	return g
}

// ingesterWith is a copy of g with something done to it.
func ingesterWith(g impl.Ingester, change func(g *impl.Ingester)) impl.Ingester {
	h := copiedIngester(g)
	change(&h)
	return h
}

// holding is an ingester that has a batch, which is not put.
func holding(id int, list ...impl.Sample) impl.Ingester {
	return impl.Ingester{Id: id, Batch: list}
}

// putting is an ingester whose batch is put.
func putting(id, seq, from int, list ...impl.Sample) impl.Ingester {
	return impl.Ingester{Id: id, Seq: seq, From: from, To: list[len(list)-1].T + 1, Batch: list, Put: true}
}

// plainDelivery is what the document says of a step of a right ingester over a right store; it does not lean on the program.
func plainDelivery(x impl.Store, g impl.Ingester) (impl.Store, impl.Ingester, bool, int) {
	if len(g.Batch) == 0 {
		return x, g, false, impl.ErrIdle
	}
	if g.Put {
		if _, there := objectOf(x, recordName(g.Seq)); there {
			return x, holding(g.Id, g.Batch...), false, impl.OK
		}
		y, code := plainPut(x, recordName(g.Seq), recordWritten(adding(g.From, g.To, keyed(0, g.Seq, g.Id))))
		return y, impl.Ingester{Id: g.Id}, code == impl.OK, code
	}
	s := plainState(x)
	if g.Batch[0].T < s.High[0] {
		return x, impl.Ingester{Id: g.Id}, false, impl.ErrLate
	}
	y, code := plainPut(x, keyed(0, s.Seq+1, g.Id), samplesWritten(g.Batch))
	if code != impl.OK {
		return x, impl.Ingester{Id: g.Id}, false, code
	}
	return y, putting(g.Id, s.Seq+1, s.High[0], g.Batch...), false, impl.OK
}

// wantDelivery checks a step of a right ingester over a right store against the document, and that it changes one object at most; it answers what it led to.
func wantDelivery(t *testing.T, what string, x impl.Store, g impl.Ingester) (impl.Store, impl.Ingester, bool, int) {
	t.Helper()
	y, h, done, code := impl.StepIngester(x, g)
	store, ingester, wantDone, want := plainDelivery(x, g)
	if code != want || done != wantDone || !alikeIngesters(h, ingester) || !alike(y, store) {
		t.Errorf("%s: step of %v: code %d, done %v, ingester %v, want code %d, done %v, ingester %v; store as wanted: %v, touched %v", what, g, code, done, h, want, wantDone, ingester, alike(y, store), touched(x, y))
	}
	keys := touched(x, y)
	if len(keys) > 1 || y.Next != x.Next+len(keys) || code != impl.OK && !alike(x, y) {
		t.Errorf("%s: step of %v, code %d, changes %v; versions up to %d, then %d", what, g, code, keys, x.Next, y.Next)
	}
	if !impl.StoreOK(y) || !impl.IngesterOK(h) || !plainIngester(h) || h.Id != g.Id {
		t.Errorf("%s: step of %v, code %d: the store is right: %v, the ingester: %v", what, g, code, impl.StoreOK(y), h)
	}
	return y, h, done, code
}

// delivers checks that a step leads to that store and that ingester without a code; it answers the store.
func delivers(t *testing.T, what string, x impl.Store, g impl.Ingester, store impl.Store, ingester impl.Ingester, wantDone bool) impl.Store {
	t.Helper()
	y, h, done, code := wantDelivery(t, what, x, g)
	if code != impl.OK || done != wantDone || !alikeIngesters(h, ingester) || !alike(y, store) {
		t.Errorf("%s: step of %v: code %d, done %v, ingester %v, want done %v, %v; store as wanted: %v, touched %v", what, g, code, done, h, wantDone, ingester, alike(y, store), touched(x, y))
	}
	return y
}

// puts checks that a batch is put as that of record seq, from the frontier from on; it answers the store.
func puts(t *testing.T, what string, x impl.Store, g impl.Ingester, seq, from int) impl.Store {
	t.Helper()
	store := laid(x, keyed(0, seq, g.Id), samplesWritten(g.Batch))
	return delivers(t, what, x, g, store, putting(g.Id, seq, from, g.Batch...), false)
}

// adds checks that the record of a batch that is put is laid down; it answers the store.
func adds(t *testing.T, what string, x impl.Store, g impl.Ingester) impl.Store {
	t.Helper()
	store := laid(x, recordName(g.Seq), fmt.Sprintf("1,0,0,%d,%d raw/%06d-%06d", g.From, g.To, g.Seq, g.Id))
	return delivers(t, what, x, g, store, impl.Ingester{Id: g.Id}, true)
}

// again checks that an ingester begins with its batch anew, and leaves the store as it was.
func again(t *testing.T, what string, x impl.Store, g impl.Ingester) {
	t.Helper()
	delivers(t, what, x, g, x, holding(g.Id, g.Batch...), false)
}

// loses checks that a step has that code, that the batch is gone, and that the store is as it was.
func loses(t *testing.T, what string, x impl.Store, g impl.Ingester, want int) {
	t.Helper()
	y, h, done, code := wantDelivery(t, what, x, g)
	if code != want || done || !alikeIngesters(h, impl.Ingester{Id: g.Id}) || !alike(y, x) {
		t.Errorf("%s: step of %v: code %d, done %v, ingester %v, want code %d and none but its Id; store as it was: %v", what, g, code, done, h, want, alike(y, x))
	}
}

// notDelivered checks that a step has that code, and that all else in its answer is zero.
func notDelivered(t *testing.T, what string, x impl.Store, g impl.Ingester, want int) {
	t.Helper()
	y, h, done, code := impl.StepIngester(x, g)
	if code != want || done || !alikeIngesters(h, impl.Ingester{}) || !alike(y, impl.Store{}) {
		t.Errorf("%s: step of %.200s: code %d, want %d; done %v, ingester %.200s, store %.200s, want all zero", what, fmt.Sprint(g), code, want, done, fmt.Sprint(h), fmt.Sprint(y))
	}
}

// plainGiven is what the document says of a batch that is handed to an ingester.
func plainGiven(g impl.Ingester, list []impl.Sample) (impl.Ingester, int) {
	switch {
	case len(list) > 4096:
		return impl.Ingester{}, impl.ErrLong
	case !plainIngester(g) || !plainBatch(list):
		return impl.Ingester{}, impl.ErrBad
	case len(list) == 0 || len(list) > 8:
		return impl.Ingester{}, impl.ErrSize
	case len(g.Batch) > 0:
		return g, impl.ErrThere
	}
	return holding(g.Id, list...), impl.OK
}

// wantGiven checks a batch that is handed to an ingester against the document, and answers the ingester and the code.
func wantGiven(t *testing.T, what string, g impl.Ingester, list []impl.Sample) (impl.Ingester, int) {
	t.Helper()
	h, code := impl.GiveBatch(g, list)
	ingester, want := plainGiven(g, list)
	if code != want || !alikeIngesters(h, ingester) {
		t.Errorf("%s: GiveBatch of %.100s, %d samples: code %d, ingester %.100s, want code %d, %.100s", what, fmt.Sprint(g), len(list), code, fmt.Sprint(h), want, fmt.Sprint(ingester))
	}
	if code == impl.OK && !impl.IngesterOK(h) {
		t.Errorf("%s: GiveBatch of %v: %v is not right", what, g, h)
	}
	return h, code
}
