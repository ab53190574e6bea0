package tests

import (
	"fmt"
	"slices"
	"testing"

	"loop.example/g00601/impl"
)

// guardedIngester is an ingester in memory of its own, with strange samples behind the end of its batch.
func guardedIngester(g impl.Ingester) impl.Ingester {
	g.Batch = guardedList(g.Batch, strangeSample)
	return g
}

// untouchedIngester tells whether a guarded ingester of want is as it was made, behind the end too.
func untouchedIngester(g, want impl.Ingester) bool {
	return alikeIngesters(g, want) && untouchedList(g.Batch, want.Batch, strangeSample)
}

// fillSamples writes strange samples over a list, up to the end of its memory.
func fillSamples(list []impl.Sample) {
	for i := range list[:cap(list)] {
		list[:cap(list)][i] = strangeSample
	}
}

func pureIngesters() []impl.Ingester {
	list := append(baseIngesters(), holding(3, behindSeveral()...), putting(3, 14, 25, behindSeveral()...), putting(3, 13, 25, behindSeveral()...), holding(3, samplesOf(24, 1, 1)...))
	for _, change := range []func(g *impl.Ingester){
		func(g *impl.Ingester) { g.Batch = []impl.Sample{} },
		func(g *impl.Ingester) { g.Batch = g.Batch[:0] },
		func(g *impl.Ingester) { g.Batch = steady(9, 1) },
		func(g *impl.Ingester) { g.Batch = steady(5000, 1) },
		func(g *impl.Ingester) { g.Batch[1].T = g.Batch[0].T },
		func(g *impl.Ingester) { g.Id, g.Seq, g.From, g.To = -1<<63, 1<<63-1, -1<<63, 1<<63-1 },
		func(g *impl.Ingester) { g.Put = !g.Put },
		func(g *impl.Ingester) { g.Batch[2].T = 1<<63 - 1 },
	} {
		list = append(list, ingesterWith(holding(3, behindSeveral()...), change), ingesterWith(putting(3, 14, 25, behindSeveral()...), change))
	}
	return list
}

// pureIntakeStores are stores over which steps of ingesters have all their codes.
func pureIntakeStores(t *testing.T) []impl.Store {
	t.Helper()
	several := severalStore(t)
	put := laid(several, keyed(0, 14, 3), "what")
	return append(pureLogs(), several, put, fullWith(several), fullWith(put), lateWith(put), laid(put, recordName(14), "what"), rawStore(t, mixedStore(), samplesOf(3, 99996, 1, 2)))
}

// deliverySaid is all that the calls of ingesters answer of a store and an ingester.
func deliverySaid(x impl.Store, g impl.Ingester, _ int) (impl.Store, impl.Ingester, string) {
	y, h, done, code := impl.StepIngester(x, g)
	said := fmt.Sprint(y, h, done, code, impl.IngesterOK(g), impl.SameIngester(g, g), impl.SameIngester(g, h))
	return y, h, said
}

// pureIngesterKind has one clock only, as no ingester is handed one.
func pureIngesterKind(t *testing.T) actors[impl.Ingester] {
	t.Helper()
	return actors[impl.Ingester]{pureIngesters(), pureIntakeStores(t), []int{0}, guardedIngester, untouchedIngester, func(g impl.Ingester) { fillSamples(g.Batch) }, deliverySaid}
}

func TestP1NoDeliveryChangesItsStoreOrItsIngester(t *testing.T) {
	pureIngesterKind(t).wantUnchanged(t)
}

func TestP1AlikeIngestersHaveAlikeDeliveries(t *testing.T) { pureIngesterKind(t).wantAlike(t) }

func TestP1DeliveriesOfOneIngesterStayApart(t *testing.T) { pureIngesterKind(t).wantApart(t) }

// givenSaid is what GiveBatch answers, in words too.
func givenSaid(g impl.Ingester, list []impl.Sample) (impl.Ingester, string) {
	h, code := impl.GiveBatch(g, list)
	return h, fmt.Sprint(h, code)
}

func TestP1NoBatchIsChangedByWhomItIsGivenTo(t *testing.T) {
	for k, g := range pureIngesters() {
		for _, list := range batchCases() {
			a, b := guardedIngester(g), guardedList(list, strangeSample)
			h, said := givenSaid(a, b)
			if !untouchedIngester(a, g) || !untouchedList(b, list, strangeSample) {
				t.Errorf("ingester %d, %d samples: they are changed", k, len(list))
			}
			before := fmt.Sprint(h)
			fillSamples(a.Batch)
			fillSamples(b)
			if fmt.Sprint(h) != before {
				t.Errorf("ingester %d, %d samples: its arguments' memory is answered", k, len(list))
			}
			a, b = guardedIngester(g), guardedList(list, strangeSample)
			h, again := givenSaid(a, b)
			fillSamples(h.Batch)
			if !untouchedIngester(a, g) || !untouchedList(b, list, strangeSample) || again != said {
				t.Errorf("ingester %d, %d samples: its arguments' memory is lent", k, len(list))
			}
		}
	}
}

func TestP1AlikeBatchesHaveAlikeAnswers(t *testing.T) {
	var first []string
	ingesters, lists := pureIngesters(), batchCases()
	for _, g := range ingesters {
		for _, list := range lists {
			_, said := givenSaid(g, list)
			first = append(first, said)
		}
	}
	at := len(first)
	for _, g := range slices.Backward(ingesters) {
		for _, list := range slices.Backward(lists) {
			at--
			if _, said := givenSaid(guardedIngester(g), guardedList(list, strangeSample)); said != first[at] {
				t.Errorf("%d samples for %.200s: the answer hangs on what was called ahead", len(list), fmt.Sprint(g))
			}
		}
	}
}

func TestP1IngestersOfNilAndOfEmptyLists(t *testing.T) {
	for _, g := range []impl.Ingester{{}, {Id: 9}, {Id: 10}, {Seq: 1}, {Put: true}, {Seq: 1, To: 1, Put: true}} {
		none, empty := g, ingesterWith(g, func(g *impl.Ingester) { g.Batch = []impl.Sample{} })
		pureIngesterKind(t).wantSameOfEmpty(t, none, empty)
		for _, list := range batchCases() {
			_, one := givenSaid(none, list)
			_, other := givenSaid(empty, list)
			if one != other {
				t.Errorf("%v, %d samples: %s of nil, %s of an empty list", g, len(list), one, other)
			}
		}
	}
	for _, g := range pureIngesters() {
		_, one := givenSaid(g, nil)
		_, other := givenSaid(g, []impl.Sample{})
		if one != other {
			t.Errorf("%v: %s given nil, %s given an empty list", g, one, other)
		}
	}
}

func TestP1BatchesOfOneListStayApart(t *testing.T) {
	list := samplesOf(3, 1, 1, 2)
	a, _ := impl.GiveBatch(impl.Ingester{Id: 2}, list)
	b, _ := impl.GiveBatch(impl.Ingester{Id: 2}, list)
	fillSamples(a.Batch)
	if !alikeIngesters(b, holding(2, samplesOf(3, 1, 1, 2)...)) {
		t.Error("two ingesters share a batch", b)
	}
}

func TestP1NewIngestersStayApart(t *testing.T) {
	a, _ := impl.NewIngester(3)
	a.Batch = append(a.Batch, strangeSample)
	a.Seq = 7
	if b, code := impl.NewIngester(3); !alikeIngesters(b, impl.Ingester{Id: 3}) || code != impl.OK {
		t.Error("NewIngester", b, code)
	}
}
