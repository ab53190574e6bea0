package tests

import (
	"fmt"
	"slices"
	"testing"

	"loop.example/g00601/impl"
)

func TestP9Constants(t *testing.T) {
	phases := []int{impl.WoIdle, impl.WoAcquire, impl.WoClaim, impl.WoPlan, impl.WoFetch, impl.WoPut, impl.WoAppend, impl.WoRelease}
	if !slices.Equal(phases, []int{0, 1, 2, 3, 4, 5, 6, 7}) {
		t.Error("phases", phases)
	}
}

func TestP9NewWorkers(t *testing.T) {
	for id := range 10 {
		w, code := impl.NewWorker(id)
		if code != impl.OK || !alikeWorkers(w, impl.Worker{Id: id}) || !impl.WorkerOK(w) {
			t.Errorf("NewWorker(%d) = %v, code %d", id, w, code)
		}
	}
	for _, id := range wrongWhos() {
		if w, code := impl.NewWorker(id); code != impl.ErrRange || !alikeWorkers(w, impl.Worker{}) {
			t.Errorf("NewWorker(%d) = %v, code %d", id, w, code)
		}
	}
}

// workerCase is a worker, right or not, and what is done to it.
type workerCase struct {
	why string
	w   impl.Worker
}

// baseWorkers are right, one in each phase, and one more that retires.
func baseWorkers() []impl.Worker {
	var list []impl.Worker
	for phase := range 8 {
		list = append(list, busyWorker(phase))
	}
	return append(list, workerWith(busyWorker(impl.WoAppend), func(w *impl.Worker) { w.Job = retiring(5, windowEntry) }))
}

// workerCases are workers around each bound of Id, Phase and Token, of Inputs and of Got, in each phase.
func workerCases() []workerCase {
	const least, most = -1 << 63, 1<<63 - 1
	var list []workerCase
	for _, base := range baseWorkers() {
		add := func(why string, change func(w *impl.Worker)) {
			list = append(list, workerCase{fmt.Sprintf("phase %d, %s", base.Phase, why), workerWith(base, change)})
		}
		add("as it is", func(*impl.Worker) {})
		for _, id := range []int{-1, 0, 1, 8, 9, 10, 11, least, most, 1 << 32, 1<<32 + 4} {
			add(fmt.Sprint("Id ", id), func(w *impl.Worker) { w.Id = id })
		}
		for _, phase := range []int{-1, 8, 9, -7, least, most, 1 << 32, 1<<32 + 3} {
			add(fmt.Sprint("but ", phase), func(w *impl.Worker) { w.Phase = phase })
		}
		for _, token := range []int{-1, 0, 1, 2, 999998, 999999, 1000000, 1000001, least, most, 1 << 32, 1<<32 + 5} {
			add(fmt.Sprint("Token ", token), func(w *impl.Worker) { w.Token = token })
			add(fmt.Sprint("Token and Job of ", token), func(w *impl.Worker) { w.Token, w.Job.Token = token, token })
		}
		for _, n := range []int{0, 1, 299, 300, 301, 302, 4096, 4097} {
			add(fmt.Sprint(n, " inputs"), func(w *impl.Worker) { w.Inputs = slices.Repeat([]impl.Entry{wideEntry}, n) })
		}
		for i, e := range wrongEntries() {
			add(fmt.Sprint("wrong entry ", i), func(w *impl.Worker) { w.Inputs[0] = e })
			add(fmt.Sprint("wrong last entry ", i), func(w *impl.Worker) { w.Inputs = append(slices.Repeat(w.Inputs, 140), e) })
		}
		for _, count := range []int{1, 999, 1000, 1001, 1002, 100000, 100001, -1, least, most} {
			add(fmt.Sprint("got ", count), func(w *impl.Worker) { w.Got = impl.Agg{Count: count} })
		}
		for i, a := range append(rightAggs(), wrongAggs()...) {
			add(fmt.Sprint("aggregate ", i), func(w *impl.Worker) { w.Got = a })
		}
		for i, r := range append(append(rightRecords(), wrongRecords()...), impl.Record{}, claiming(5), publishing(6, 1, 10, 15), publishing(4, 1, 10, 15), retiring(5, rawEntry), retiring(6, rawEntry), adding(0, 5, keyed(0, 5, 5))) {
			add(fmt.Sprint("job ", i), func(w *impl.Worker) { w.Job = r })
			add(fmt.Sprint("its own job ", i), func(w *impl.Worker) { w.Job = r; w.Job.Token = w.Token })
		}
	}
	return list
}

func TestP9WorkersThatAreRight(t *testing.T) {
	right, wrong := 0, 0
	for _, c := range workerCases() {
		want := plainWorker(c.w)
		if got := impl.WorkerOK(c.w); got != want {
			t.Errorf("%s: WorkerOK = %v, want %v; %.300s", c.why, got, want, fmt.Sprint(c.w))
		}
		if want {
			right++
		} else {
			wrong++
		}
	}
	if right < 300 || wrong < 300 {
		t.Errorf("%d are right, %d are not", right, wrong)
	}
}

// What the bounds are, told one by one.
func TestP9BoundsOfWorkers(t *testing.T) {
	for phase := range 8 {
		w := busyWorker(phase)
		job := phase >= 4 && phase <= 6
		for _, c := range []struct {
			why    string
			change func(w *impl.Worker)
			right  bool
		}{
			{"as it is", func(w *impl.Worker) {}, true},
			{"Id 0", func(w *impl.Worker) { w.Id = 0 }, true},
			{"Id 9", func(w *impl.Worker) { w.Id = 9 }, true},
			{"Id -1", func(w *impl.Worker) { w.Id = -1 }, false},
			{"Id 10", func(w *impl.Worker) { w.Id = 10 }, false},
			{"Token 0", func(w *impl.Worker) { w.Token = 0 }, phase < 2},
			{"Token -1", func(w *impl.Worker) { w.Token = -1 }, false},
			{"Token 1", func(w *impl.Worker) { w.Token, w.Job.Token = 1, 1 }, true},
			{"Token 999999", func(w *impl.Worker) { w.Token, w.Job.Token = 999999, 999999 }, true},
			{"Token 1000000", func(w *impl.Worker) { w.Token, w.Job.Token = 1000000, 1000000 }, false},
			{"a Job of another token", func(w *impl.Worker) { w.Job.Token = 6 }, !job},
			{"a Job of nothing", func(w *impl.Worker) { w.Job = impl.Record{} }, !job},
			{"a Job that retires", func(w *impl.Worker) { w.Job = retiring(5, rawEntry) }, phase == 6 || !job},
			{"a Job that retires of another token", func(w *impl.Worker) { w.Job = retiring(4, rawEntry) }, !job},
			{"a Job that claims", func(w *impl.Worker) { w.Job = claiming(5) }, !job},
			{"a Job that adds", func(w *impl.Worker) { w.Job = adding(0, 5, keyed(0, 5, 5)) }, !job},
			{"a Job that purges", func(w *impl.Worker) { w.Job = purging(keyed(0, 5, 5)) }, !job},
			{"a Job of raw data", func(w *impl.Worker) { w.Job.Tier, w.Job.Key = 0, keyed(0, 10, 5) }, !job},
			{"a Job that is none", func(w *impl.Worker) { w.Job.To = w.Job.From }, !job},
			{"no inputs", func(w *impl.Worker) { w.Inputs = nil }, true},
			{"300 inputs", func(w *impl.Worker) { w.Inputs = slices.Repeat(w.Inputs, 150) }, true},
			{"301 inputs", func(w *impl.Worker) { w.Inputs = append(slices.Repeat(w.Inputs, 150), rawEntry) }, false},
			{"an input that is none", func(w *impl.Worker) { w.Inputs[1] = impl.Entry{} }, false},
			{"got 1000", func(w *impl.Worker) { w.Got = impl.Agg{Count: 1000} }, true},
			{"got 1001", func(w *impl.Worker) { w.Got = impl.Agg{Count: 1001} }, false},
			{"got what is not right", func(w *impl.Worker) { w.Got = impl.Agg{Sum: 1} }, false},
		} {
			v := workerWith(w, c.change)
			if got := impl.WorkerOK(v); got != c.right || plainWorker(v) != c.right {
				t.Errorf("phase %d, %s: WorkerOK = %v, the plain one %v, want %v", phase, c.why, got, plainWorker(v), c.right)
			}
		}
	}
	for _, phase := range []int{-1, 8} {
		if impl.WorkerOK(busyWorker(phase)) {
			t.Error("phase", phase)
		}
	}
}

// ErrBad comes ahead of ErrRange, of the store and of the worker.
func TestP9StepsOfWhatIsNotRight(t *testing.T) {
	nows := append(wrongNows(), 0, 52, lastNow)
	for _, x := range wrongLogStores() {
		for _, w := range append(baseWorkers(), impl.Worker{}, impl.Worker{Id: 10}) {
			for _, now := range nows {
				notStepped(t, "a wrong store", x, w, now, impl.ErrBad)
			}
		}
	}
	x := restingStore(t)
	for i, c := range workerCases() {
		if !plainWorker(c.w) {
			notStepped(t, c.why, x, c.w, nows[i%len(nows)], impl.ErrBad)
			notStepped(t, c.why, impl.NewStore(), c.w, 52, impl.ErrBad)
		}
	}
}

func TestP9NowsOutOfBounds(t *testing.T) {
	for _, x := range []impl.Store{impl.NewStore(), restingStore(t), fullWith(fetchStore()), lateWith(leased(impl.Lease{Token: 5, Owner: 4, Until: 20}))} {
		for _, w := range append(baseWorkers(), impl.Worker{}) {
			for _, now := range wrongNows() {
				notStepped(t, "out of bounds", x, w, now, impl.ErrRange)
			}
			for _, now := range []int{0, 1, 100000, 100001, lastNow - 1, lastNow} {
				wantStep(t, "at the bounds", x, w, now)
			}
		}
	}
}

// All right workers that there are, over stores of many kinds.
func TestP9StepsOfAllWorkers(t *testing.T) {
	stores := append(rightStores(), restingStore(t), fetchStore(), fullWith(restingStore(t)), lateWith(restingStore(t)), logged(mixedStore(), shortLog()...), leased(impl.Lease{Token: 5, Owner: 4, Until: 20}), withLease(mixedStore(), "what"))
	for i, c := range workerCases() {
		if plainWorker(c.w) {
			wantStep(t, c.why, stores[i%len(stores)], c.w, i%127)
		}
	}
}

func TestP9SameWorkers(t *testing.T) {
	changes := []func(w *impl.Worker){
		func(w *impl.Worker) { w.Id++ }, func(w *impl.Worker) { w.Phase++ }, func(w *impl.Worker) { w.Token++ },
		func(w *impl.Worker) { w.Job.Kind++ }, func(w *impl.Worker) { w.Job.Token++ }, func(w *impl.Worker) { w.Job.Tier++ }, func(w *impl.Worker) { w.Job.From++ }, func(w *impl.Worker) { w.Job.To++ }, func(w *impl.Worker) { w.Job.Key += "0" },
		func(w *impl.Worker) { w.Inputs = w.Inputs[:1] }, func(w *impl.Worker) { w.Inputs = nil }, func(w *impl.Worker) { w.Inputs = append(w.Inputs, w.Inputs[1]) },
		func(w *impl.Worker) { w.Inputs[0], w.Inputs[1] = w.Inputs[1], w.Inputs[0] },
		func(w *impl.Worker) { w.Inputs[1].Tier++ }, func(w *impl.Worker) { w.Inputs[1].From++ }, func(w *impl.Worker) { w.Inputs[0].To++ }, func(w *impl.Worker) { w.Inputs[1].Key += "0" },
		func(w *impl.Worker) { w.Got.Count++ }, func(w *impl.Worker) { w.Got.Sum++ }, func(w *impl.Worker) { w.Got.Min-- }, func(w *impl.Worker) { w.Got.Max++ }, func(w *impl.Worker) { w.Got.First++ }, func(w *impl.Worker) { w.Got.Last++ },
	}
	for _, base := range append(baseWorkers(), impl.Worker{Id: -7, Phase: 99, Inputs: []impl.Entry{{}, {Tier: 9}}, Got: impl.Agg{Sum: 4}}) {
		if !impl.SameWorker(base, copiedWorker(base)) {
			t.Errorf("%v is not the same as itself", base)
		}
		for i, change := range changes {
			v := workerWith(base, change)
			if impl.SameWorker(base, v) || impl.SameWorker(v, base) {
				t.Errorf("%v is the same behind change %d", base, i)
			}
		}
	}
	none, empty := impl.Worker{Id: 1}, impl.Worker{Id: 1, Inputs: []impl.Entry{}}
	if !impl.SameWorker(none, empty) || !impl.SameWorker(empty, none) || !impl.SameWorker(impl.Worker{}, impl.Worker{}) {
		t.Error("nil is not the same as an empty list")
	}
}
