package tests

import (
	"fmt"
	"math/rand"
	"slices"
	"testing"

	"loop.example/g00601/impl"
)

// wayBatches leave windows of nothing: of tier 1 those from 5, 25 and 30 on.
func wayBatches() [][]impl.Sample {
	return [][]impl.Sample{
		{{T: 1, V: 5}, {T: 3, V: -6}},
		{{T: 4, V: 7}, {T: 11, V: 8}},
		{{T: 12, V: 0}, {T: 14, V: 3}, {T: 19, V: -1}, {T: 22, V: 4}},
		{{T: 38, V: 9}, {T: 41, V: -9}},
	}
}

// way is a worker on its way over a store, from step to step, each of them checked against the document.
type way struct {
	t *testing.T
	x impl.Store
	w impl.Worker
}

func newWay(t *testing.T, x impl.Store, id int) *way {
	t.Helper()
	w, code := impl.NewWorker(id)
	wantCode(t, "NewWorker", code, impl.OK)
	return &way{t, x, w}
}

// step takes a step, which has to lead to that phase and that code.
func (g *way) step(now, phase, want int) {
	g.t.Helper()
	y, v, code := wantStep(g.t, "on its way", g.x, g.w, now)
	if v.Phase != phase || code != want {
		g.t.Fatalf("a step at %d leads to phase %d, code %d, want phase %d, code %d; worker %v", now, v.Phase, code, phase, want, v)
	}
	g.x, g.w = y, v
}

func (g *way) steps(now int, phases ...int) {
	g.t.Helper()
	for _, phase := range phases {
		g.step(now, phase, impl.OK)
	}
}

// window goes from WoPlan through all steps of a window that has that many inputs, and has to lay these data down.
func (g *way) window(now, inputs int, job impl.Record, data string) {
	g.t.Helper()
	g.step(now, impl.WoFetch, impl.OK)
	if g.w.Job != job || len(g.w.Inputs) != inputs || g.w.Got != (impl.Agg{}) {
		g.t.Fatalf("planned: %v, want %d inputs of %v", g.w, inputs, job)
	}
	for range inputs - 1 {
		g.step(now, impl.WoFetch, impl.OK)
	}
	g.steps(now, impl.WoPut, impl.WoAppend)
	if got, there := objectOf(g.x, job.Key); got != data || !there {
		g.t.Errorf("%s: data %q, %v, want %q", job.Key, got, there, data)
	}
	g.step(now, impl.WoPlan, impl.OK)
	if g.w.Job != (impl.Record{}) || g.w.Got != (impl.Agg{}) {
		g.t.Errorf("behind the window: %v", g.w)
	}
}

// entry goes from WoPlan through all steps of an entry that is to go.
func (g *way) entry(now int, e impl.Entry) {
	g.t.Helper()
	g.step(now, impl.WoAppend, impl.OK)
	if g.w.Job != retiring(g.w.Token, e) {
		g.t.Fatalf("planned: %v, want the end of %v", g.w, e)
	}
	g.step(now, impl.WoPlan, impl.OK)
}

// rollWay goes through all windows of wayBatches, with token 1.
func (g *way) rollWay(now int) {
	g.t.Helper()
	g.window(now, 2, publishing(1, 1, 0, 5), "0:3,6,-6,7,5,7")
	g.window(now, 1, publishing(1, 1, 5, 10), "")
	g.window(now, 2, publishing(1, 1, 10, 15), "10:3,11,0,8,8,3")
	g.window(now, 1, publishing(1, 1, 15, 20), "15:1,-1,-1,-1,-1,-1")
	g.window(now, 2, publishing(1, 1, 20, 25), "20:1,4,4,4,4,4")
	g.window(now, 1, publishing(1, 1, 25, 30), "")
	g.window(now, 1, publishing(1, 1, 30, 35), "")
	g.window(now, 1, publishing(1, 1, 35, 40), "35:1,9,9,9,9,9")
	g.window(now, 4, publishing(1, 2, 0, 20), "0:7,16,-6,8,5,-1")
	g.window(now, 4, publishing(1, 2, 20, 40), "20:2,13,4,9,4,9")
}

func TestP9AWholeWay(t *testing.T) {
	g := newWay(t, rawStore(t, mixedStore(), wayBatches()...), 3)
	g.steps(10, impl.WoAcquire, impl.WoClaim)
	wantLease(t, "acquired", g.x, impl.Lease{Token: 1, Owner: 3, Until: 30}, impl.OK)
	if g.w.Token != 1 {
		t.Error("token", g.w)
	}
	g.step(10, impl.WoPlan, impl.OK)
	if got, _ := objectOf(g.x, "man/000005"); got != "2,1,0,0,0 " {
		t.Errorf("claim %q", got)
	}
	g.rollWay(20)
	s := plainState(g.x)
	if s.Seq != 15 || s.Fence != 1 || s.High != [3]int{42, 40, 40} || s.Low != [3]int{} || len(s.Entries) != 14 {
		t.Error("rolled up", s)
	}
	g.steps(20, impl.WoRelease, impl.WoIdle)
	wantLease(t, "let go", g.x, impl.Lease{Token: 1, Owner: 3}, impl.OK)
	if !alikeWorkers(g.w, impl.Worker{Id: 3}) {
		t.Error("at rest", g.w)
	}
	g.step(43, impl.WoIdle, impl.ErrIdle)
}

// Behind the windows of a way the old entries go, tier by tier, as time goes by.
func TestP9OldEntriesOnAWholeWay(t *testing.T) {
	g := newWay(t, rawStore(t, mixedStore(), wayBatches()...), 3)
	g.steps(10, impl.WoAcquire, impl.WoClaim, impl.WoPlan)
	g.rollWay(20)
	s := plainState(g.x)
	g.entry(62, s.Entries[0])
	g.entry(62, s.Entries[1])
	g.steps(62, impl.WoRelease, impl.WoIdle)
	g.step(62, impl.WoIdle, impl.ErrIdle)
	g.steps(63, impl.WoAcquire, impl.WoClaim, impl.WoPlan)
	if g.w.Token != 2 {
		t.Error("token", g.w)
	}
	g.entry(63, s.Entries[2])
	// The last raw entry goes on behind tier 1, and stays however old it is.
	for i := range 8 {
		g.entry(140, s.Entries[4+i])
	}
	g.entry(420, s.Entries[12])
	g.steps(439, impl.WoRelease, impl.WoIdle)
	g.step(439, impl.WoIdle, impl.ErrIdle)
	g.steps(440, impl.WoAcquire, impl.WoClaim, impl.WoPlan)
	g.entry(440, s.Entries[13])
	g.steps(lastNow, impl.WoRelease, impl.WoIdle)
	g.step(lastNow, impl.WoIdle, impl.ErrIdle)
	if s := plainState(g.x); s.Low != [3]int{23, 40, 40} || s.High != [3]int{42, 40, 40} || len(s.Entries) != 1 || len(s.Tombs) != 13 || s.Fence != 3 {
		t.Error("at the end", s)
	}
}

// A window goes ahead of an entry that is old.
func TestP9WindowsGoAheadOfOldEntries(t *testing.T) {
	g := newWay(t, rawStore(t, impl.NewStore(), wayBatches()[:2]...), 0)
	g.steps(1000, impl.WoAcquire, impl.WoClaim, impl.WoPlan)
	g.window(1000, 2, publishing(1, 1, 0, 5), "0:3,6,-6,7,5,7")
	g.window(1000, 1, publishing(1, 1, 5, 10), "")
	g.entry(1000, impl.Entry{From: 0, To: 4, Key: keyed(0, 1, 2)})
	g.x = rawStore(t, g.x, []impl.Sample{{T: 16, V: 2}})
	g.window(1000, 2, publishing(1, 1, 10, 15), "10:1,8,8,8,8,8")
	g.entry(1000, impl.Entry{From: 4, To: 12, Key: keyed(0, 2, 2)})
	g.steps(1000, impl.WoRelease, impl.WoIdle)
}

// drawnBatches are batches over about that many times.
func drawnBatches(r *rand.Rand, times int) [][]impl.Sample {
	var batches [][]impl.Sample
	for at := r.Intn(30); at < times; {
		var list []impl.Sample
		for range 1 + r.Intn(8) {
			list = append(list, impl.Sample{T: at, V: r.Intn(2000001) - 1000000})
			at += 1 + r.Intn(4)*r.Intn(4)
		}
		batches = append(batches, list)
	}
	return batches
}

// What a worker lays down is what the samples of each window make.
func TestP9WindowsAreWhatTheirSamplesMake(t *testing.T) {
	for seed := range 12 {
		r := rand.New(rand.NewSource(int64(seed)))
		batches := drawnBatches(r, 150)
		g := newWay(t, rawStore(t, impl.NewStore(), batches...), seed%10)
		for steps := 0; ; steps++ {
			y, v, code := wantStep(t, fmt.Sprint("seed ", seed), g.x, g.w, 30)
			if code == impl.ErrIdle || steps > 1000 || t.Failed() {
				break
			}
			wantCode(t, "on its way", code, impl.OK)
			g.x, g.w = y, v
		}
		end := plainState(g.x).High[0]
		for tier := 1; tier <= 2; tier++ {
			width := plainWidths[tier]
			for _, window := range windowsIn(span{0, end - end%width}, width) {
				want := bucketsWritten(madeAtOnce(slices.Concat(batches...), window))
				if got, there := objectOf(g.x, keyed(tier, window.from, 1)); !there || got != want {
					t.Errorf("seed %d: tier %d, %v: %q, %v, want %q", seed, tier, window, got, there, want)
				}
			}
		}
		if s := plainState(g.x); s.High[1] != end-end%5 || s.High[2] != end-end%20 {
			t.Errorf("seed %d: windows up to %v", seed, s.High)
		}
	}
}

// One raw entry over all times is all that a window needs.
func TestP9WindowsOfOneLongEntry(t *testing.T) {
	g := newWay(t, rawStore(t, impl.NewStore(), samplesOf(7, 99992, 4, 6)), 9)
	g.steps(lastNow, impl.WoAcquire, impl.WoClaim, impl.WoPlan)
	g.window(lastNow, 1, publishing(1, 1, 0, 5), "")
	g.window(lastNow, 1, publishing(1, 1, 5, 10), "5:1,4,4,4,4,4")
	g.window(lastNow, 1, publishing(1, 1, 10, 15), "")
	g.window(lastNow, 1, publishing(1, 1, 15, 20), "")
	g.window(lastNow, 1, publishing(1, 1, 20, 25), "")
}
