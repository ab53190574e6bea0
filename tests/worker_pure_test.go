package tests

import (
	"fmt"
	"slices"
	"testing"

	"loop.example/g00601/impl"
)

// guardedWorker is a worker in memory of its own, with junk behind the end of its list.
func guardedWorker(w impl.Worker) impl.Worker {
	w.Inputs = guardedList(w.Inputs, junkEntry)
	return w
}

// untouchedWorker tells whether a guarded worker of w is as it was made, behind the end too.
func untouchedWorker(g, w impl.Worker) bool {
	return alikeWorkers(g, w) && untouchedList(g.Inputs, w.Inputs, junkEntry)
}

// fillWorker writes junk over the list of a worker, up to the end of its memory.
func fillWorker(w impl.Worker) {
	for i := range w.Inputs[:cap(w.Inputs)] {
		w.Inputs[:cap(w.Inputs)][i] = junkEntry
	}
}

func pureWorkers() []impl.Worker {
	list := append(baseWorkers(), impl.Worker{}, impl.Worker{Id: 9, Phase: 1}, impl.Worker{Id: 9, Phase: 3, Token: 5}, impl.Worker{Phase: 7, Token: 1})
	for _, change := range []func(w *impl.Worker){
		func(w *impl.Worker) { w.Inputs = w.Inputs[:1] },
		func(w *impl.Worker) { w.Inputs = []impl.Entry{} },
		func(w *impl.Worker) { w.Inputs = slices.Repeat(w.Inputs, 150) },
		func(w *impl.Worker) { w.Inputs = slices.Repeat(w.Inputs, 3000) },
		func(w *impl.Worker) { w.Inputs[0].Key = text(impl.MaxText + 1) },
		func(w *impl.Worker) { w.Id, w.Phase, w.Token = -1<<63, 1<<63-1, -1<<63 },
		func(w *impl.Worker) { w.Got.Count = 1<<63 - 1 },
	} {
		list = append(list, workerWith(busyWorker(impl.WoFetch), change))
	}
	return list
}

// pureWorkStores are stores over which steps have all their codes.
func pureWorkStores(t *testing.T) []impl.Store {
	t.Helper()
	rest := restingStore(t)
	more := rawStore(t, rest, []impl.Sample{{T: 25, V: 3}})
	held := withLease(rest, "5,4,120")
	return []impl.Store{
		{}, impl.NewStore(), mixedStore(), rest, more, held, fetchStore(), laid(fetchStore(), keyed(0, 3, 2), "what"), withLease(rest, "what"), withLease(more, "5,4,0"),
		fullWith(rest), lateWith(held), numberedStore(impl.MaxObjects + 1), {Next: 1<<63 - 1, Objects: []impl.Object{{Key: "lease", Ver: -1 << 63, Data: "7,3,120"}}},
	}
}

var pureNows = []int{0, 52, 127, lastNow, -1, lastNow + 1, -1 << 63, 1<<63 - 1}

// stepSaid is all that the calls of workers answer of a store, a worker and a now.
func stepSaid(x impl.Store, w impl.Worker, now int) (impl.Store, impl.Worker, string) {
	y, v, code := impl.StepWorker(x, w, now)
	said := fmt.Sprint(y, v, code, impl.WorkerOK(w), impl.SameWorker(w, w), impl.SameWorker(w, v))
	return y, v, said
}

func pureWorkerKind(t *testing.T) actors[impl.Worker] {
	t.Helper()
	return actors[impl.Worker]{pureWorkers(), pureWorkStores(t), pureNows, guardedWorker, untouchedWorker, fillWorker, stepSaid}
}

func TestP1NoStepChangesItsStoreOrItsWorker(t *testing.T) { pureWorkerKind(t).wantUnchanged(t) }

func TestP1AlikeWorkersHaveAlikeSteps(t *testing.T) { pureWorkerKind(t).wantAlike(t) }

func TestP1StepsOfOneWorkerStayApart(t *testing.T) { pureWorkerKind(t).wantApart(t) }

func TestP1WorkersOfNilAndOfEmptyLists(t *testing.T) {
	for phase := -1; phase <= 8; phase++ {
		none := workerWith(busyWorker(phase), func(w *impl.Worker) { w.Inputs = nil })
		pureWorkerKind(t).wantSameOfEmpty(t, none, workerWith(none, func(w *impl.Worker) { w.Inputs = []impl.Entry{} }))
	}
}

func TestP1AlikeWindowsHaveAlikeAnswers(t *testing.T) {
	said := func(e impl.Entry, data string, r span) string {
		a, code := impl.WindowOf(e, data, r.from, r.to)
		return fmt.Sprint(a, code)
	}
	type ask struct {
		e    impl.Entry
		data string
		r    span
	}
	var asks []ask
	for _, e := range append(wrongEntries(), rawEntry, windowEntry, wideEntry) {
		for _, data := range []string{"", "what", "1=5 3=6", "0:1,7,7,7,7,7 5:2,0,0,0,0,0", "0:100000,0,0,0,0,0 5:1,0,0,0,0,0", text(impl.MaxText), text(impl.MaxText + 1)} {
			for _, r := range append(wrongSpans(), span{0, 5}, span{2, 20}, span{0, 100000}, span{5, 5}) {
				asks = append(asks, ask{e, data, r})
			}
		}
	}
	var first []string
	for _, a := range asks {
		first = append(first, said(a.e, a.data, a.r))
	}
	for i, a := range slices.Backward(asks) {
		if got := said(a.e, string([]byte(a.data)), a.r); got != first[i] {
			t.Errorf("WindowOf %.60v, %.60q, %v: %s, then %s", a.e, a.data, a.r, first[i], got)
		}
	}
}

func TestP1NewWorkersStayApart(t *testing.T) {
	a, _ := impl.NewWorker(3)
	a.Inputs = append(a.Inputs, junkEntry)
	a.Token = 7
	if b, code := impl.NewWorker(3); !alikeWorkers(b, impl.Worker{Id: 3}) || code != impl.OK {
		t.Error("NewWorker", b, code)
	}
}
