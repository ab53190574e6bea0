package tests

import (
	"fmt"
	"slices"
	"testing"

	"loop.example/g00601/impl"
)

// fetchStore has data of the inputs of a busy worker, and of two windows.
func fetchStore() impl.Store {
	return withObjects(mixedStore(), map[string]string{
		keyed(0, 3, 2):  "8=1 9=2 10=3 11=-4",
		keyed(0, 4, 3):  "12=5 14=6 15=7 19=8",
		keyed(1, 5, 5):  "5:2,3,1,2,2,1 10:1,9,9,9,9,9",
		keyed(1, 10, 5): "10:3,11,0,8,8,3",
		keyed(1, 15, 5): "",
	})
}

func TestP9Fetching(t *testing.T) {
	x := fetchStore()
	w := busyWorker(impl.WoFetch)
	one := workerWith(w, func(w *impl.Worker) {
		w.Inputs = w.Inputs[1:]
		w.Got = impl.Agg{Count: 4, Sum: 2, Min: -4, Max: 3, First: 2, Last: -4}
	})
	both := workerWith(one, func(w *impl.Worker) {
		w.Phase, w.Inputs = impl.WoPut, nil
		w.Got = impl.Agg{Count: 6, Sum: 13, Min: -4, Max: 6, First: 2, Last: 6}
	})
	for _, now := range []int{0, 52, lastNow} {
		for _, y := range []impl.Store{x, fullWith(x), lateWith(x)} {
			stepped(t, "the first of two", y, w, now, y, one)
			stepped(t, "the last one", y, one, now, y, both)
		}
	}
	none := workerWith(w, func(w *impl.Worker) { w.Inputs = nil })
	for _, y := range []impl.Store{x, impl.NewStore(), withRecords(t, x, claiming(9))} {
		stepped(t, "without any", y, none, 0, y, inPhase(none, impl.WoPut))
	}
	empty := workerWith(none, func(w *impl.Worker) { w.Inputs = []impl.Entry{} })
	stepped(t, "of an empty list", x, empty, 0, x, inPhase(none, impl.WoPut))
}

// fetchCase is what an entry of fetchStore has of a range.
type fetchCase struct {
	s   span
	e   impl.Entry
	got impl.Agg
}

// fetchCases are of buckets, by where these begin, and of raw data.
func fetchCases() []fetchCase {
	return []fetchCase{
		{span{0, 20}, impl.Entry{Tier: 1, From: 5, To: 10, Key: keyed(1, 5, 5)}, impl.Agg{Count: 3, Sum: 12, Min: 1, Max: 9, First: 2, Last: 9}},
		{span{0, 10}, impl.Entry{Tier: 1, From: 5, To: 10, Key: keyed(1, 5, 5)}, impl.Agg{Count: 2, Sum: 3, Min: 1, Max: 2, First: 2, Last: 1}},
		{span{6, 11}, impl.Entry{Tier: 1, From: 5, To: 10, Key: keyed(1, 5, 5)}, impl.Agg{Count: 1, Sum: 9, Min: 9, Max: 9, First: 9, Last: 9}},
		{span{6, 10}, impl.Entry{Tier: 1, From: 5, To: 10, Key: keyed(1, 5, 5)}, impl.Agg{}},
		{span{0, 20}, impl.Entry{Tier: 1, From: 15, To: 20, Key: keyed(1, 15, 5)}, impl.Agg{}},
		{span{0, 9}, impl.Entry{From: 8, To: 12, Key: keyed(0, 3, 2)}, impl.Agg{Count: 1, Sum: 1, Min: 1, Max: 1, First: 1, Last: 1}},
		{span{99995, 100000}, impl.Entry{From: 8, To: 12, Key: keyed(0, 3, 2)}, impl.Agg{}},
	}
}

// Inputs of any tier are read as their tier's data, within the range of the Job.
func TestP9FetchingWindows(t *testing.T) {
	x := fetchStore()
	for i, c := range fetchCases() {
		for _, tier := range []int{1, 2} {
			w := impl.Worker{Phase: 4, Token: 1, Job: publishing(1, tier, c.s.from, c.s.to), Inputs: []impl.Entry{c.e}}
			stepped(t, fmt.Sprint("window ", i), x, w, 0, x, workerWith(w, func(w *impl.Worker) { w.Phase, w.Inputs, w.Got = impl.WoPut, nil, c.got }))
		}
	}
}

func TestP9InputsThatAreGone(t *testing.T) {
	w := busyWorker(impl.WoFetch)
	x := fetchStore()
	for _, now := range []int{0, lastNow} {
		anew(t, "gone", without(x, keyed(0, 3, 2)), w, now, impl.ErrNone)
		anew(t, "an empty store", impl.NewStore(), w, now, impl.ErrNone)
		// Only the first one is looked for.
		if _, _, code := wantStep(t, "the second one is gone", without(x, keyed(0, 4, 3)), w, now); code != impl.OK {
			t.Error("the second one is gone", code)
		}
	}
}

// damagedRaw are data that no raw entry can have.
func damagedRaw() []string {
	return []string{"what", " ", "10=3 ", "10=3  11=4", "11=4 10=3", "10=1000001", "100000=1", "10=03", "10:1,9,9,9,9,9", "0=0 1=0 2=0 3=0 4=0 5=0 6=0 7=0 8=0", text(impl.MaxData)}
}

// damagedWindows are data that no window can have, or that count more than there are times.
func damagedWindows() []string {
	return []string{"what", "10=3", "10:1,9,9,9,9", "10:0,0,0,0,0,0", "10:1,9,9,9,9,9 10:1,9,9,9,9,9", "10:100001,0,0,0,0,0", "0:100000,0,0,0,0,0 50:1,9,9,9,9,9", "10:50000,0,0,0,0,0 11:50001,0,0,0,0,0"}
}

func TestP9InputsThatAreDamaged(t *testing.T) {
	x := fetchStore()
	w := busyWorker(impl.WoFetch)
	for _, data := range damagedRaw() {
		anew(t, "raw data", laid(x, keyed(0, 3, 2), data), w, 0, impl.ErrDamaged)
		stepped(t, "raw data of the second one", laid(x, keyed(0, 4, 3), data), workerWith(w, func(w *impl.Worker) { w.Inputs = w.Inputs[:1] }), 0, laid(x, keyed(0, 4, 3), data),
			workerWith(w, func(w *impl.Worker) {
				w.Phase, w.Inputs, w.Got = impl.WoPut, nil, impl.Agg{Count: 4, Sum: 2, Min: -4, Max: 3, First: 2, Last: -4}
			}))
	}
	for _, tier := range []int{1, 2} {
		key := keyed(tier, 10, 4)
		w := workerWith(w, func(w *impl.Worker) { w.Inputs[0] = impl.Entry{Tier: tier, From: 10, To: 15, Key: key} })
		for _, data := range damagedWindows() {
			anew(t, "windows", laid(x, key, data), w, 0, impl.ErrDamaged)
		}
	}
}

// amount is what was got by now, what is to come to that, and the code.
type amount struct{ got, more, want int }

// amounts come to 1000, or to more than that.
func amounts() []amount {
	return []amount{
		{0, 1000, impl.OK}, {1, 999, impl.OK}, {999, 1, impl.OK}, {1000, 0, impl.OK}, {500, 500, impl.OK},
		{0, 1001, impl.ErrMany}, {1, 1000, impl.ErrMany}, {1000, 1, impl.ErrMany}, {0, 100000, impl.ErrMany}, {1, 100000, impl.ErrMany}, {1000, 100000, impl.ErrMany},
	}
}

// data are what a window from 10 on has that is to come.
func (a amount) data() string {
	if a.more == 0 {
		return ""
	}
	return bucketsWritten([]impl.Bucket{counted(10, a.more, 3)})
}

// agg is what was got by now.
func (a amount) agg() impl.Agg {
	if a.got == 0 {
		return impl.Agg{}
	}
	return counted(0, a.got, 3).Agg
}

// A worker has got 1000 at most; beyond that it begins anew, as it would be none.
func TestP9MoreThanAWorkerMayHave(t *testing.T) {
	key := keyed(1, 10, 4)
	for _, c := range amounts() {
		x := laid(mixedStore(), key, c.data())
		w := impl.Worker{Id: 2, Phase: 4, Token: 5, Job: publishing(5, 2, 0, 20), Inputs: []impl.Entry{{Tier: 1, From: 10, To: 15, Key: key}}, Got: c.agg()}
		if c.want != impl.OK {
			anew(t, fmt.Sprint(c), x, w, 0, c.want)
			continue
		}
		stepped(t, fmt.Sprint(c), x, w, 0, x, workerWith(w, func(w *impl.Worker) { w.Phase, w.Inputs, w.Got = impl.WoPut, nil, counted(0, 1000, 3).Agg }))
	}
}

// The same input may be there many times, up to the last of 300.
func TestP9FetchingManyInputs(t *testing.T) {
	x := fetchStore()
	w := workerWith(busyWorker(impl.WoFetch), func(w *impl.Worker) {
		w.Inputs = slices.Repeat([]impl.Entry{{From: 8, To: 12, Key: keyed(0, 3, 2)}}, 300)
		w.Got = impl.Agg{}
	})
	for left := 299; left >= 0; left-- {
		y, v, code := wantStep(t, "many inputs", x, w, 0)
		phase := impl.WoFetch
		if left == 0 {
			phase = impl.WoPut
		}
		if code != impl.OK || v.Phase != phase || len(v.Inputs) != left || v.Got.Count != 2*(300-left) {
			t.Fatalf("%d left: code %d, phase %d, %d inputs, got %v", left, code, v.Phase, len(v.Inputs), v.Got)
		}
		x, w = y, v
	}
}

func TestP9Putting(t *testing.T) {
	x := fetchStore()
	key := keyed(1, 10, 5)
	for _, w := range []impl.Worker{busyWorker(impl.WoPut), workerWith(busyWorker(impl.WoPut), func(w *impl.Worker) { w.Inputs = nil })} {
		nothing := workerWith(w, func(w *impl.Worker) { w.Got = impl.Agg{} })
		y := without(x, key)
		for _, now := range []int{0, lastNow} {
			stepped(t, "a bucket", y, w, now, laid(y, key, "10:2,3,1,2,2,1"), inPhase(w, impl.WoAppend))
			stepped(t, "nothing", y, nothing, now, laid(y, key, ""), inPhase(nothing, impl.WoAppend))
			stepped(t, "whoever claimed", withRecords(t, y, claiming(9)), w, now, laid(withRecords(t, y, claiming(9)), key, "10:2,3,1,2,2,1"), inPhase(w, impl.WoAppend))
			for _, full := range []impl.Store{fullWith(y), lateWith(y), lateWith(fullWith(y))} {
				anew(t, "no room", full, w, now, impl.ErrFull)
				anew(t, "no room for nothing", full, nothing, now, impl.ErrFull)
			}
		}
		// What is there is let be, with the same data and with others, and without any room.
		for _, data := range []string{"10:2,3,1,2,2,1", "10:1,9,9,9,9,9", "", "what"} {
			there := laid(y, key, data)
			for _, z := range []impl.Store{there, fullWith(there), lateWith(there)} {
				stepped(t, "it is there", z, w, 0, z, inPhase(w, impl.WoAppend))
				stepped(t, "it is there, of nothing", z, nothing, 0, z, inPhase(nothing, impl.WoAppend))
			}
		}
	}
}

// A bucket is put under the key of the Job, from where the Job begins, whatever that key says.
func TestP9PuttingBucketsOfAllJobs(t *testing.T) {
	const top = impl.MaxValue
	for _, got := range []impl.Agg{{Count: 1}, {Count: 1000, Sum: -1000 * top, Min: -top, Max: -top, First: -top, Last: -top}, {Count: 1000, Sum: -999 * top, Min: -top, Max: top, First: -top, Last: -top}} {
		for _, from := range []int{0, 5, 20, 99980, 99995, 99999} {
			for _, tier := range []int{1, 2} {
				job := impl.Record{Kind: 3, Token: 999999, Tier: tier, From: from, To: 100000, Key: keyed(tier, 7, 8)}
				w := impl.Worker{Id: 1, Phase: 5, Token: 999999, Job: job, Got: got}
				stepped(t, "any job", mixedStore(), w, 0, laid(mixedStore(), job.Key, bucketsWritten([]impl.Bucket{{From: from, Agg: got}})), inPhase(w, impl.WoAppend))
			}
		}
	}
}
