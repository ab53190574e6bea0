package tests

import (
	"fmt"
	"slices"
	"testing"

	"loop.example/g00601/impl"
)

// intake is a world with ingesters beside its workers.
type intake struct {
	*world
	ingesters [3]impl.Ingester
	// ends counts the steps of ingesters by what they were and how they ended.
	ends map[ending]int
}

// ending is a step of an ingester: whether its batch was put ahead of it, whether it is in the log behind it, whether it has to be put anew, and the code.
type ending struct {
	put, done, anew bool
	code            int
}

func newIntake(t *testing.T, seed int, ends map[ending]int) *intake {
	g := &intake{world: newWorld(t, seed, map[[2]int]int{}), ends: ends}
	for id := range g.ingesters {
		g.ingesters[id] = impl.Ingester{Id: id}
	}
	return g
}

// batchAt draws samples from at on.
func (g *intake) batchAt(at int) []impl.Sample {
	var list []impl.Sample
	for range 1 + g.r.Intn(8) {
		if at > 99999 {
			break
		}
		list = append(list, impl.Sample{T: at, V: g.r.Intn(2000001) - 1000000})
		at += 1 + g.r.Intn(4)*g.r.Intn(4)
	}
	return list
}

// deliver lets an ingester step; one without a batch is given one first, at or around the frontier. What is done is acknowledged.
func (g *intake) deliver(id int) {
	g.t.Helper()
	i := g.ingesters[id]
	if len(i.Batch) == 0 {
		if len(g.x.Objects) > 270 {
			return
		}
		at := plainState(g.x).High[0] + g.r.Intn(12) - 2
		if i, _ = wantGiven(g.t, "in a world", i, g.batchAt(max(at, 0))); len(i.Batch) == 0 {
			return
		}
	}
	y, h, done, code := wantDelivery(g.t, "in a world", g.x, i)
	g.ends[ending{i.Put, done, i.Put && len(h.Batch) > 0, code}]++
	if done {
		g.added(y, i)
		g.acked = append(g.acked, i.Batch...)
	}
	if code == impl.ErrLate {
		if s := plainState(g.x); i.Batch[0].T >= s.High[0] {
			g.t.Errorf("%v is told that it is late of a frontier at %d", i, s.High[0])
		}
	}
	g.x, g.ingesters[id] = y, h
}

// added checks that a batch whose step is done is what the last entry of the log has.
func (g *intake) added(y impl.Store, i impl.Ingester) {
	g.t.Helper()
	s := plainState(y)
	before := plainState(g.x)
	last := s.Entries[len(s.Entries)-1]
	data, _ := objectOf(y, last.Key)
	if want := (impl.Entry{From: before.High[0], To: i.Batch[len(i.Batch)-1].T + 1, Key: keyed(0, before.Seq+1, i.Id)}); last != want || s.Seq != before.Seq+1 || data != samplesWritten(i.Batch) {
		g.t.Errorf("%v is done: the last entry is %v, want %v; its data %q", i, last, want, data)
	}
}

// go on with steps, time, other records, and ingesters that crash.
func (g *intake) happenToo() {
	g.t.Helper()
	switch n := g.r.Intn(100); {
	case n < 60:
		g.deliver(g.r.Intn(3))
	case n < 63:
		id := g.r.Intn(3)
		g.ingesters[id] = impl.Ingester{Id: id}
	default:
		g.happen()
	}
}

// Whatever ingesters do beside each other, beside workers, and if they crash: the raw data of the log are just what was acknowledged, each batch once and in the order of times.
func TestP10WhatIsDoneIsInTheLog(t *testing.T) {
	ends := map[ending]int{}
	for seed := range 12 {
		g := newIntake(t, seed, ends)
		for range 500 {
			g.happenToo()
			if t.Failed() {
				t.Fatal("seed", seed)
			}
		}
		s := plainState(g.x)
		var told []impl.Sample
		for _, e := range s.Entries {
			if e.Tier == 0 {
				data, _ := objectOf(g.x, e.Key)
				list, _ := plainSamples(data)
				told = append(told, list...)
			}
		}
		if !plainBatch(g.acked) || !slices.Equal(told, samplesIn(g.acked, span{s.Low[0], s.High[0]})) || len(samplesIn(g.acked, span{s.High[0], 100000})) > 0 {
			t.Errorf("seed %d: raw data %v, acknowledged %v", seed, told, g.acked)
		}
	}
	for _, e := range []ending{{}, {put: true, done: true}, {put: true, anew: true}, {code: impl.ErrLate}} {
		if ends[e] < 20 {
			t.Errorf("hardly ever %v: %v", e, ends)
		}
	}
}

// drawnIngester is a right ingester as likely as not to have something to do with a state.
func (g *intake) drawnIngester(s impl.State) impl.Ingester {
	r := g.r
	i := impl.Ingester{Id: r.Intn(10)}
	if r.Intn(10) == 0 {
		return i
	}
	i.Batch = g.batchAt(min(max(s.High[0]+r.Intn(9)-3, 0), 99999-r.Intn(3)))
	if r.Intn(3) == 0 {
		return i
	}
	i.Put, i.Seq = true, min(max(s.Seq+r.Intn(5)-2, 1), 999999)
	i.From, i.To = r.Intn(i.Batch[0].T+1), i.Batch[len(i.Batch)-1].T+1
	if s.High[0] <= i.Batch[0].T && r.Intn(2) == 0 {
		i.From = s.High[0]
	}
	if !plainIngester(i) {
		g.t.Fatal("a drawn ingester is not right", i)
	}
	return i
}

// Whatever was done to a store, and whichever ingester it is, no step changes more than one object.
func TestP10NoStepChangesMoreThanOneObject(t *testing.T) {
	ends := map[ending]int{}
	for seed := range 30 {
		g := newIntake(t, 2000+seed, ends)
		// What is done here need not be in the log, as the store is harmed.
		step := func(x impl.Store, i impl.Ingester) (impl.Store, impl.Ingester) {
			y, h, done, code := wantDelivery(t, fmt.Sprint("seed ", seed), x, i)
			ends[ending{i.Put, done, i.Put && len(h.Batch) > 0, code}]++
			return y, h
		}
		for n := range 300 {
			g.happen()
			if g.r.Intn(3) == 0 {
				g.harm()
			}
			id := g.r.Intn(3)
			if g.r.Intn(2) == 0 {
				g.ingesters[id] = g.drawnIngester(plainState(g.x))
			}
			if len(g.x.Objects) < 290 {
				g.x, g.ingesters[id] = step(g.x, g.ingesters[id])
			}
			if len(g.x.Objects) < 300 && n%5 == 0 {
				i := g.drawnIngester(plainState(g.x))
				step(fullWith(g.x), i)
				step(lateWith(g.x), i)
			}
			if t.Failed() {
				t.FailNow()
			}
		}
	}
	wantSeen(t, ends, 20, []ending{
		{}, {code: impl.ErrIdle}, {code: impl.ErrLate}, {code: impl.ErrFull},
		{put: true, done: true}, {put: true, anew: true}, {put: true, code: impl.ErrFull},
	}...)
}
