package tests

import (
	"fmt"
	"testing"

	"loop.example/g00601/impl"
)

// busyWorker is in a phase, with token 5 and something in every field; its Job publishes a window from 10 on.
func busyWorker(phase int) impl.Worker {
	return impl.Worker{
		Id: 4, Phase: phase, Token: 5, Job: publishing(5, 1, 10, 15),
		Inputs: []impl.Entry{{From: 8, To: 12, Key: keyed(0, 3, 2)}, {From: 12, To: 20, Key: keyed(0, 4, 3)}},
		Got:    impl.Agg{Count: 2, Sum: 3, Min: 1, Max: 2, First: 2, Last: 1},
	}
}

func inPhase(w impl.Worker, phase int) impl.Worker {
	return workerWith(w, func(w *impl.Worker) { w.Phase = phase })
}

// restingStore has six records. No window is due there, the first raw entry goes at 52, and token 5 is claimed.
func restingStore(t *testing.T) impl.Store {
	t.Helper()
	x := rawStore(t, mixedStore(), []impl.Sample{{T: 3, V: 1}, {T: 11, V: 2}})
	return withRecords(t, x, claiming(5), publishing(5, 1, 0, 5), publishing(5, 1, 5, 10), adding(12, 18, keyed(0, 5, 2)), publishing(5, 1, 10, 15))
}

// fullWith is x with as many objects beside as it takes to be full.
func fullWith(x impl.Store) impl.Store {
	data := map[string]string{}
	for i := range impl.MaxObjects - len(x.Objects) {
		data[fmt.Sprintf("zz/%03d", i)] = "more"
	}
	return withObjects(x, data)
}

// lateWith is x without a version left.
func lateWith(x impl.Store) impl.Store {
	y := copied(x)
	y.Next = lastNext
	return y
}

func TestP9NothingToDo(t *testing.T) {
	for _, x := range []impl.Store{impl.NewStore(), mixedStore(), numberedStore(impl.MaxObjects), lateWith(mixedStore()), withLease(mixedStore(), "what"), restingStore(t)} {
		for _, now := range []int{0, 1, 51} {
			for _, w := range []impl.Worker{{}, {Id: 9}, busyWorker(impl.WoIdle), {Token: 999999}} {
				y, v, code := wantStep(t, "nothing to do", x, w, now)
				if code != impl.ErrIdle || !alikeWorkers(v, w) || !alike(y, x) {
					t.Errorf("idle %v at %d: code %d, worker %v, store as it was: %v", w, now, code, v, alike(y, x))
				}
			}
		}
	}
	// Raw data up to one time short of a window.
	x := rawStore(t, impl.NewStore(), []impl.Sample{{T: 3, V: 1}})
	if _, _, code := wantStep(t, "no whole window", x, impl.Worker{}, lastNow); code != impl.ErrIdle {
		t.Error("no whole window", code)
	}
}

func TestP9SomethingToDo(t *testing.T) {
	for _, w := range []impl.Worker{{}, {Id: 9}, busyWorker(impl.WoIdle), {Token: 999999}} {
		due := rawStore(t, mixedStore(), []impl.Sample{{T: 4, V: 1}})
		stepped(t, "a window is due", due, w, 0, due, inPhase(w, impl.WoAcquire))
		old := restingStore(t)
		for _, now := range []int{52, 53, 5000, lastNow} {
			stepped(t, "an entry is old", old, w, now, old, inPhase(w, impl.WoAcquire))
		}
		// Whether there is room, and who has the lease, is not asked yet.
		full := lateWith(fullWith(withLease(due, "what")))
		stepped(t, "in a full store", full, w, 7, full, inPhase(w, impl.WoAcquire))
	}
}

func TestP9Acquiring(t *testing.T) {
	for _, w := range []impl.Worker{{Phase: 1}, {Id: 9, Phase: 1}, busyWorker(impl.WoAcquire)} {
		for _, now := range []int{0, 1, 127, lastNow} {
			for _, x := range leaseStores() {
				acquired(t, x, w, now, 1)
			}
			acquired(t, leased(impl.Lease{Token: 7, Owner: 3}), w, now, 8)
			acquired(t, leased(impl.Lease{Token: 999998, Owner: 3}), w, now, 999999)
			anew(t, "no token left", leased(impl.Lease{Token: 999999, Owner: 3}), w, now, impl.ErrFull)
			for _, data := range []string{"", "what", "7,3", "0,3,120", "7,10,120", "7,3,200001"} {
				anew(t, "a damaged lease", withLease(mixedStore(), data), w, now, impl.ErrDamaged)
			}
			for _, x := range fullStores() {
				anew(t, "no room", x, w, now, impl.ErrFull)
			}
		}
		held := leased(impl.Lease{Token: 7, Owner: w.Id, Until: 120})
		for _, now := range []int{0, 119, 120, 121, 126} {
			anew(t, "held", held, w, now, impl.ErrHeld)
		}
		acquired(t, held, w, 127, 8)
		acquired(t, fullWith(held), w, 127, 8)
		anew(t, "no version left", lateWith(held), w, 127, impl.ErrFull)
		anew(t, "held, and no version left", lateWith(held), w, 126, impl.ErrHeld)
	}
}

// acquired checks a step that acquires the lease with that token.
func acquired(t *testing.T, x impl.Store, w impl.Worker, now, token int) {
	t.Helper()
	lease := impl.Lease{Token: token, Owner: w.Id, Until: now + 20}
	stepped(t, "free", x, w, now, withLease(x, leaseWritten(lease)), workerWith(w, func(w *impl.Worker) { w.Phase, w.Token = impl.WoClaim, token }))
}

func TestP9Claiming(t *testing.T) {
	for _, w := range []impl.Worker{{Phase: 2, Token: 1}, {Id: 9, Phase: 2, Token: 999999}, busyWorker(impl.WoClaim)} {
		claim := recordWritten(claiming(w.Token))
		short := logged(mixedStore(), shortLog()...)
		for i, c := range []struct {
			x   impl.Store
			seq int
		}{
			{impl.NewStore(), 1}, {mixedStore(), 1}, {short, 11}, {restingStore(t), 7}, {numberedStore(impl.MaxObjects - 1), 1},
			// Another record took the number that was free when the worker had its token.
			{withRecords(t, short, claiming(3)), 12}, {withRecords(t, short, claiming(999999), adding(0, 1, keyed(0, 1, 2))), 13},
			// What cannot be read has a number too.
			{logged(mixedStore(), "what", ""), 3},
			// What is behind a gap does not count.
			{without(short, "man/000004"), 4}, {without(short, "man/000001"), 1}, {withObjects(impl.NewStore(), map[string]string{"man/000002": "2,7,0,0,0 "}), 1},
		} {
			stepped(t, fmt.Sprint("store ", i), c.x, w, 0, laid(c.x, recordName(c.seq), claim), inPhase(w, impl.WoPlan))
		}
		for _, x := range append(fullStores(), fullWith(short), lateWith(short)) {
			anew(t, "no room", x, w, 50, impl.ErrFull)
		}
	}
}

func TestP9Planning(t *testing.T) {
	x := restingStore(t)
	for _, w := range []impl.Worker{{Id: 9, Phase: 3, Token: 5}, busyWorker(impl.WoPlan)} {
		stepped(t, "nothing to do", x, w, 51, x, inPhase(w, impl.WoRelease))
		gone := workerWith(w, func(w *impl.Worker) {
			w.Phase, w.Job = impl.WoAppend, retiring(5, impl.Entry{From: 0, To: 12, Key: keyed(0, 1, 2)})
		})
		for _, now := range []int{52, 53, lastNow} {
			stepped(t, "an old entry", x, w, now, x, gone)
		}
		more := rawStore(t, x, []impl.Sample{{T: 25, V: 3}})
		window := workerWith(w, func(w *impl.Worker) {
			w.Phase, w.Job, w.Got = impl.WoFetch, publishing(5, 1, 15, 20), impl.Agg{}
			w.Inputs = []impl.Entry{{From: 12, To: 18, Key: keyed(0, 5, 2)}, {From: 18, To: 26, Key: keyed(0, 7, 2)}}
		})
		for _, now := range []int{0, 52, lastNow} {
			stepped(t, "a window of tier 1", more, w, now, more, window)
		}
		wide := withRecords(t, more, publishing(5, 1, 15, 20), publishing(5, 1, 20, 25))
		rolled := workerWith(w, func(w *impl.Worker) {
			w.Phase, w.Job, w.Got, w.Inputs = impl.WoFetch, publishing(5, 2, 0, 20), impl.Agg{}, nil
			for _, from := range []int{0, 5, 10, 15} {
				w.Inputs = append(w.Inputs, impl.Entry{Tier: 1, From: from, To: from + 5, Key: keyed(1, from, 5)})
			}
		})
		stepped(t, "a window of tier 2", wide, w, 52, wide, rolled)
	}
}

// Whatever is due or old, a worker whose token is not the last one claimed goes no further.
func TestP9PlansAndRecordsOfAnotherToken(t *testing.T) {
	x := restingStore(t)
	for _, phase := range []int{impl.WoPlan, impl.WoAppend} {
		for _, token := range []int{1, 4, 6, 999999} {
			w := workerWith(busyWorker(phase), func(w *impl.Worker) { w.Token, w.Job.Token = token, token })
			for _, now := range []int{0, 52, lastNow} {
				anew(t, "another token is claimed", x, w, now, impl.ErrStale)
				anew(t, "no token is claimed", rawStore(t, mixedStore(), []impl.Sample{{T: 7, V: 1}}), w, now, impl.ErrStale)
				anew(t, "an empty store", impl.NewStore(), w, now, impl.ErrStale)
				anew(t, "and there is no room", fullWith(x), w, now, impl.ErrStale)
			}
		}
		w := busyWorker(phase)
		anew(t, "a later token is claimed", withRecords(t, x, claiming(6)), w, 0, impl.ErrStale)
		// A claim of a lesser token is not taken, and one that cannot be read is none.
		for _, y := range []impl.Store{withRecords(t, x, claiming(4)), withRecords(t, x, claiming(5)), laid(x, recordName(7), "2,6,0,0,0"), laid(x, recordName(8), "2,6,0,0,0 ")} {
			if _, _, code := wantStep(t, "its own token is claimed still", y, w, 0); code != impl.OK {
				t.Error("its own token is claimed still", phase, code)
			}
		}
	}
}

func TestP9Appending(t *testing.T) {
	x := restingStore(t)
	gone := impl.Entry{From: 0, To: 12, Key: keyed(0, 1, 2)}
	for _, job := range []impl.Record{publishing(5, 1, 15, 20), publishing(5, 2, 0, 20), publishing(5, 1, 99995, 100000), retiring(5, gone), retiring(5, impl.Entry{Tier: 2, From: 3, To: 4, Key: keyed(2, 0, 999999)})} {
		for _, w := range []impl.Worker{{Id: 9, Phase: 6, Token: 5, Job: job}, workerWith(busyWorker(impl.WoAppend), func(w *impl.Worker) { w.Job = job })} {
			done := workerWith(w, func(w *impl.Worker) { w.Phase, w.Job, w.Got = impl.WoPlan, impl.Record{}, impl.Agg{} })
			stepped(t, "behind the log", x, w, 0, laid(x, recordName(7), recordWritten(job)), done)
			// Another record took the number, of what is taken or of what is not.
			for _, y := range []impl.Store{withRecords(t, x, adding(18, 30, keyed(0, 7, 2))), withRecords(t, x, claiming(2)), laid(x, recordName(7), "what"), withRecords(t, x, job)} {
				stepped(t, "the number is taken", y, w, lastNow, laid(y, recordName(8), recordWritten(job)), done)
			}
			gap := laid(x, recordName(8), "2,9,0,0,0 ")
			stepped(t, "a gap", gap, w, 0, laid(gap, recordName(7), recordWritten(job)), done)
			for _, y := range []impl.Store{fullWith(x), lateWith(x)} {
				anew(t, "no room", y, w, 0, impl.ErrFull)
			}
		}
	}
}

func TestP9Releasing(t *testing.T) {
	for _, w := range []impl.Worker{{Id: 4, Phase: 7, Token: 5}, busyWorker(impl.WoRelease)} {
		for _, now := range []int{0, 100, lastNow} {
			for _, until := range []int{1, 20, 200000} {
				x := leased(impl.Lease{Token: 5, Owner: 4, Until: until})
				for _, y := range []impl.Store{x, fullWith(x)} {
					stepped(t, "let go", y, w, now, withLease(y, "5,4,0"), impl.Worker{Id: 4})
				}
				anew(t, "no version left", lateWith(x), w, now, impl.ErrFull)
			}
			for _, l := range []impl.Lease{{Token: 6, Owner: 4, Until: 120}, {Token: 4, Owner: 4, Until: 120}, {Token: 5, Owner: 3, Until: 120}, {Token: 5, Owner: 4}, {Token: 6, Owner: 0, Until: 120}} {
				anew(t, "another lease", leased(l), w, now, impl.ErrStale)
				anew(t, "another lease, and no version left", lateWith(leased(l)), w, now, impl.ErrStale)
			}
			for _, x := range append(leaseStores(), fullStores()...) {
				anew(t, "no lease", x, w, now, impl.ErrStale)
			}
			for _, data := range []string{"", "what", "5,4", "5,4,200001"} {
				anew(t, "a damaged lease", withLease(mixedStore(), data), w, now, impl.ErrDamaged)
			}
		}
	}
}
