package tests

import (
	"fmt"
	"slices"
	"testing"

	"loop.example/g00601/impl"
)

// objectOf is the data of an object, and whether there is one, looked for one by one.
func objectOf(x impl.Store, key string) (string, bool) {
	for _, o := range x.Objects {
		if o.Key == key {
			return o.Data, true
		}
	}
	return "", false
}

func without(x impl.Store, key string) impl.Store {
	y := copied(x)
	y.Objects = slices.DeleteFunc(y.Objects, func(o impl.Object) bool { return o.Key == key })
	return y
}

// laid is x with these data of the next version over whatever has that key, put there without the program.
func laid(x impl.Store, key, data string) impl.Store {
	return withObjects(without(x, key), map[string]string{key: data})
}

// plainPut is laid, if there is room.
func plainPut(x impl.Store, key, data string) (impl.Store, int) {
	_, there := objectOf(x, key)
	if !there && len(x.Objects) == 300 || x.Next == lastNext {
		return x, impl.ErrFull
	}
	return laid(x, key, data), impl.OK
}

// plainState is what the records of a store lead to.
func plainState(x impl.Store) impl.State {
	var texts []string
	for {
		text, there := objectOf(x, recordName(len(texts)+1))
		if !there {
			return plainLog(texts)
		}
		texts = append(texts, text)
	}
}

// appended is a record put behind the log.
func appended(x impl.Store, r impl.Record) (impl.Store, int) {
	return plainPut(x, recordName(plainState(x).Seq+1), recordWritten(r))
}

// withRecords is x with these records behind its log.
func withRecords(t *testing.T, x impl.Store, list ...impl.Record) impl.Store {
	t.Helper()
	for _, r := range list {
		y, code := appended(x, r)
		if !plainRecord(r) || code != impl.OK {
			t.Fatalf("no such record can be laid: %v, code %d", r, code)
		}
		x = y
	}
	return x
}

// rawStore is x with a raw entry of each batch behind its log; the first goes from the frontier on, and each to its last time and 1.
func rawStore(t *testing.T, x impl.Store, batches ...[]impl.Sample) impl.Store {
	t.Helper()
	for _, list := range batches {
		s := plainState(x)
		key := keyed(0, s.Seq+1, 2)
		x = withRecords(t, laid(x, key, samplesWritten(list)), adding(s.High[0], list[len(list)-1].T+1, key))
	}
	return x
}

// plainMerged is the aggregate of parts, each later than those ahead of it.
func plainMerged(parts ...impl.Agg) impl.Agg {
	var all impl.Agg
	for _, a := range parts {
		switch {
		case a.Count == 0:
		case all.Count == 0:
			all = a
		default:
			all = impl.Agg{Count: all.Count + a.Count, Sum: all.Sum + a.Sum, Min: min(all.Min, a.Min), Max: max(all.Max, a.Max), First: all.First, Last: a.Last}
		}
	}
	return all
}

// plainWindow is what data of a tier have in a range, and whether they can be read.
func plainWindow(tier int, data string, r span) (impl.Agg, bool) {
	if tier == 0 {
		list, ok := plainSamples(data)
		return foldOf(samplesIn(list, r)), ok
	}
	list, ok := plainBuckets(data)
	count := 0
	var all impl.Agg
	for _, b := range list {
		count += b.Agg.Count
		if r.has(b.From) {
			all = plainMerged(all, b.Agg)
		}
	}
	return all, ok && count <= 100000
}

// plainWorker is what the document says of workers.
func plainWorker(w impl.Worker) bool {
	job := w.Job.Kind == 3 || w.Job.Kind == 4 && w.Phase == 6
	switch {
	case w.Id < 0 || w.Id > 9 || w.Phase < 0 || w.Phase > 7 || w.Token < 0 || w.Token > 999999 || len(w.Inputs) > 300:
		return false
	case w.Phase >= 2 && w.Token == 0:
		return false
	case w.Phase >= 4 && w.Phase <= 6 && !(job && plainRecord(w.Job) && w.Job.Token == w.Token):
		return false
	}
	for _, e := range w.Inputs {
		if !plainEntry(e.Tier, e.From, e.To, e.Key) {
			return false
		}
	}
	return impl.AggOK(w.Got) && w.Got.Count <= 1000
}

// alikeWorkers is what SameWorker ought to tell, and does not lean on it.
func alikeWorkers(a, b impl.Worker) bool {
	return a.Id == b.Id && a.Phase == b.Phase && a.Token == b.Token && a.Job == b.Job && a.Got == b.Got && slices.Equal(a.Inputs, b.Inputs)
}

func copiedWorker(w impl.Worker) impl.Worker {
	w.Inputs = slices.Clone(w.Inputs)
	return w
}

// workerWith is a copy of w with something done to it.
func workerWith(w impl.Worker, change func(w *impl.Worker)) impl.Worker {
	v := copiedWorker(w)
	change(&v)
	return v
}

// touched are the keys of the objects that two stores do not have alike.
func touched(a, b impl.Store) []string {
	var keys []string
	for _, pair := range [][2]impl.Store{{a, b}, {b, a}} {
		for _, o := range pair[0].Objects {
			if !slices.Contains(pair[1].Objects, o) && !slices.Contains(keys, o.Key) {
				keys = append(keys, o.Key)
			}
		}
	}
	return keys
}

// wantStep checks a step of a right worker over a right store against the document, and that it changes one object at most; it answers what it led to.
func wantStep(t *testing.T, what string, x impl.Store, w impl.Worker, now int) (impl.Store, impl.Worker, int) {
	t.Helper()
	y, v, code := impl.StepWorker(x, w, now)
	store, worker, want := plainStep(x, w, now)
	if code != want || !alikeWorkers(v, worker) || !alike(y, store) {
		t.Errorf("%s: step of %.300s at %d: code %d, worker %.300s, want code %d, worker %.300s; store as wanted: %v, touched %v", what, fmt.Sprint(w), now, code, fmt.Sprint(v), want, fmt.Sprint(worker), alike(y, store), touched(x, y))
	}
	keys := touched(x, y)
	if len(keys) > 1 || y.Next != x.Next+len(keys) || code != impl.OK && !alike(x, y) {
		t.Errorf("%s: step of %.300s at %d, code %d, changes %v; versions up to %d, then %d", what, fmt.Sprint(w), now, code, keys, x.Next, y.Next)
	}
	if !impl.StoreOK(y) || !impl.WorkerOK(v) || !plainWorker(v) {
		t.Errorf("%s: step of %.300s at %d, code %d: the store is right: %v, the worker: %.300s", what, fmt.Sprint(w), now, code, impl.StoreOK(y), fmt.Sprint(v))
	}
	return y, v, code
}

// stepped checks that a step leads to that worker and that store without a code.
func stepped(t *testing.T, what string, x impl.Store, w impl.Worker, now int, store impl.Store, worker impl.Worker) {
	t.Helper()
	y, v, code := wantStep(t, what, x, w, now)
	if code != impl.OK || !alikeWorkers(v, worker) || !alike(y, store) {
		t.Errorf("%s: step of %v at %d: code %d, worker %v, want %v; store as wanted: %v, touched %v", what, w, now, code, v, worker, alike(y, store), touched(x, y))
	}
}

// anew checks that a step has that code, begins anew, and leaves the store as it was.
func anew(t *testing.T, what string, x impl.Store, w impl.Worker, now, want int) {
	t.Helper()
	y, v, code := wantStep(t, what, x, w, now)
	if code != want || !alikeWorkers(v, impl.Worker{Id: w.Id}) || !alike(y, x) {
		t.Errorf("%s: step of %v at %d: code %d, worker %v, want code %d and none but its Id; store as it was: %v", what, w, now, code, v, want, alike(y, x))
	}
}

// notStepped checks that a step has that code, and that all else in its answer is zero.
func notStepped(t *testing.T, what string, x impl.Store, w impl.Worker, now, want int) {
	t.Helper()
	y, v, code := impl.StepWorker(x, w, now)
	if code != want || !alikeWorkers(v, impl.Worker{}) || !alike(y, impl.Store{}) {
		t.Errorf("%s: step of %.200s at %d: code %d, want %d; worker %.200s, store %.200s, want both zero", what, fmt.Sprint(w), now, code, want, fmt.Sprint(v), fmt.Sprint(y))
	}
}
