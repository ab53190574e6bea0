package tests

import (
	"math/rand"
	"testing"

	"loop.example/g00601/impl"
)

// world is a store with workers whose clocks are off, raw data that come in, and whatever else may be done to a store.
type world struct {
	t       *testing.T
	r       *rand.Rand
	x       impl.Store
	workers [3]impl.Worker
	now     int
	acked   []impl.Sample
	// seen counts the steps by phase and code.
	seen map[[2]int]int
}

func newWorld(t *testing.T, seed int, seen map[[2]int]int) *world {
	g := &world{t: t, r: rand.New(rand.NewSource(int64(seed))), x: impl.NewStore(), now: 10, seen: seen}
	for id := range g.workers {
		g.workers[id] = impl.Worker{Id: id}
	}
	return g
}

// stepOf lets one worker step, by a clock that is off by 3 at most.
func (g *world) stepOf(id int) {
	g.t.Helper()
	w := g.workers[id]
	now := min(max(g.now+g.r.Intn(7)-3, 0), lastNow)
	y, v, code := wantStep(g.t, "in a world", g.x, w, now)
	g.seen[[2]int{w.Phase, code}]++
	g.x, g.workers[id] = y, v
}

// ingest adds raw data behind the frontier, as long as there is room for more than them.
func (g *world) ingest() {
	if len(g.x.Objects) > 270 {
		return
	}
	at := plainState(g.x).High[0] + g.r.Intn(8)
	var list []impl.Sample
	for range 1 + g.r.Intn(4) {
		list = append(list, impl.Sample{T: at, V: g.r.Intn(41) - 20})
		at += 1 + g.r.Intn(5)
	}
	g.x = rawStore(g.t, g.x, list)
	g.acked = append(g.acked, list...)
}

// happen lets something happen that does no harm: steps, time, raw data, and workers that crash.
func (g *world) happen() {
	switch n := g.r.Intn(120); {
	case n < 113:
		g.stepOf(g.r.Intn(3) * g.r.Intn(2))
	case n < 117:
		g.now += g.r.Intn(12)
	case n < 119:
		g.ingest()
	default:
		id := g.r.Intn(3)
		g.workers[id] = impl.Worker{Id: id}
	}
}

// Workers that go on beside each other, late ones and new ones among them, leave windows that are what the samples make.
func TestP9WorkersSideBySide(t *testing.T) {
	windows, wide, gone := 0, 0, 0
	seen := map[[2]int]int{}
	for seed := range 12 {
		g := newWorld(t, seed, seen)
		for range 900 {
			g.happen()
			if t.Failed() {
				t.Fatal("seed", seed)
			}
		}
		s := plainState(g.x)
		for _, e := range s.Entries {
			if e.Tier == 0 {
				continue
			}
			want := bucketsWritten(madeAtOnce(g.acked, span{e.From, e.To}))
			if got, there := objectOf(g.x, e.Key); !there || got != want {
				t.Errorf("seed %d: %v: %q, %v, want %q", seed, e, got, there, want)
			}
			windows++
		}
		wide += s.High[2] / 20
		gone += len(s.Tombs)
	}
	if windows < 100 || wide < 10 || gone < 10 || seen[[2]int{1, impl.ErrHeld}] < 10 || seen[[2]int{3, impl.ErrStale}]+seen[[2]int{6, impl.ErrStale}] < 3 {
		t.Errorf("hardly anything was done: %d windows, %d wide ones, %d entries gone; steps by phase and code: %v", windows, wide, gone, seen)
	}
}

// harm does something to the store that no worker does.
func (g *world) harm() {
	s := plainState(g.x)
	room := len(g.x.Objects) < 299
	switch g.r.Intn(10) {
	case 0:
		if len(g.x.Objects) > 0 {
			g.x = without(g.x, g.x.Objects[g.r.Intn(len(g.x.Objects))].Key)
		}
	case 1:
		if len(g.x.Objects) > 0 {
			data := []string{"", "what", "what", "5=5", "0:1,2,2,2,2,2", "0:2000,0,0,0,0,0", "2,9,0,0,0 ", "9,1,0", "3,0,500"}
			g.x = laid(g.x, g.x.Objects[g.r.Intn(len(g.x.Objects))].Key, data[g.r.Intn(len(data))])
		}
	case 2:
		g.x = without(g.x, "lease")
		if g.r.Intn(3) == 0 && room {
			g.x = laid(g.x, "lease", "1,0,")
		}
	case 3:
		if room {
			g.x = withRecords(g.t, g.x, claiming(s.Fence+1+g.r.Intn(3)))
		}
	case 4:
		if tier, window, due := plainDue(s); due && room {
			g.x = laid(g.x, keyed(tier, window.from, max(s.Fence, 1)), "")
		}
	case 5:
		if list := hopeful(g.r, s); room {
			if r := list[g.r.Intn(len(list))]; plainRecord(r) {
				g.x = withRecords(g.t, g.x, r)
			}
		}
	case 6:
		if w := g.drawnWorker(s); room && w.Job.Kind == 3 {
			e := impl.Entry{Tier: 1, From: 0, To: 5, Key: keyed(1, 0, 999999)}
			g.x = laid(g.x, e.Key, bucketsWritten([]impl.Bucket{counted(w.Job.From, 995+g.r.Intn(10), 1)}))
			g.workers[0] = workerWith(w, func(w *impl.Worker) { w.Phase, w.Inputs = impl.WoFetch, append([]impl.Entry{e}, w.Inputs...) })
		}
	default:
		g.workers[g.r.Intn(3)] = g.drawnWorker(s)
	}
}

// drawnWorker is a right worker as likely as not to have something to do with a state.
func (g *world) drawnWorker(s impl.State) impl.Worker {
	r := g.r
	w := impl.Worker{Id: r.Intn(10), Phase: r.Intn(8), Token: max(s.Fence+r.Intn(4)-1, 1)}
	if text, there := objectOf(g.x, "lease"); there && r.Intn(2) == 0 {
		l, _ := plainLeaseOf(text)
		w.Id, w.Token = l.Owner, max(l.Token, 1)
	}
	var jobs []impl.Record
	for tier := 1; tier <= 2; tier++ {
		jobs = append(jobs, publishing(w.Token, tier, min(s.High[tier], 99000), min(s.High[tier], 99000)+plainWidths[tier]))
	}
	jobs = append(jobs, publishing(w.Token, 1+r.Intn(2), 5*r.Intn(20), 100+r.Intn(99000)))
	if e, found := plainFirst(s, r.Intn(3)); found && w.Phase == 6 {
		jobs = append(jobs, retiring(w.Token, e), retiring(w.Token, e))
	}
	w.Job = jobs[r.Intn(len(jobs))]
	for range r.Intn(4) {
		if len(s.Entries) > 0 {
			w.Inputs = append(w.Inputs, s.Entries[r.Intn(len(s.Entries))])
		}
	}
	if r.Intn(3) > 0 {
		w.Got = counted(0, 1+r.Intn(1000)*r.Intn(2), r.Intn(100)).Agg
	}
	if !plainWorker(w) {
		g.t.Fatal("a drawn worker is not right", w)
	}
	return w
}

// Whatever was done to a store, and whichever worker it is, no step changes more than one object.
func TestP9NoStepChangesMoreThanOneObject(t *testing.T) {
	seen := map[[2]int]int{}
	for seed := range 60 {
		g := newWorld(t, 1000+seed, seen)
		for n := range 400 {
			g.happen()
			if g.r.Intn(4) == 0 {
				g.harm()
			}
			// Stores without room come up at times, and are left again.
			if kept := g.x; n%20 == 0 && len(kept.Objects) < 300 {
				full := []impl.Store{fullWith(kept), lateWith(kept)}
				g.x = full[g.r.Intn(2)]
				g.workers[2] = g.drawnWorker(plainState(kept))
				g.stepOf(1 + g.r.Intn(2))
				g.x = kept
			}
			if t.Failed() {
				t.Fatal("seed", seed)
			}
		}
	}
	// A number that was just found free is never taken, so that ErrThere is not told.
	wantSeen(t, seen, 3, numbered(
		[]int{impl.OK, impl.ErrIdle},
		[]int{impl.OK, impl.ErrHeld, impl.ErrDamaged, impl.ErrFull},
		[]int{impl.OK, impl.ErrFull},
		[]int{impl.OK, impl.ErrStale},
		[]int{impl.OK, impl.ErrNone, impl.ErrDamaged, impl.ErrMany},
		[]int{impl.OK, impl.ErrFull},
		[]int{impl.OK, impl.ErrStale, impl.ErrFull},
		[]int{impl.OK, impl.ErrStale, impl.ErrDamaged, impl.ErrFull},
	)...)
}
