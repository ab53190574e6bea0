package tests

import (
	"fmt"
	"slices"
	"testing"

	"loop.example/g00601/impl"
)

// library is an intake with readers beside its ingesters and its workers, and one who sweeps what rests under no pin.
type library struct {
	*intake
	readers [2]impl.Reader
	// told counts the queries that are over by tier and code, swept what was swept.
	told  map[[2]int]int
	swept int
}

func newLibrary(t *testing.T, seed int, told map[[2]int]int) *library {
	g := &library{intake: newIntake(t, seed, map[ending]int{}), told: told}
	for i := range g.readers {
		g.readers[i] = impl.Reader{Id: 4 + i}
	}
	return g
}

// clock is now, off by 3 at most.
func (g *library) clock() int { return min(max(g.now+g.r.Intn(7)-3, 0), lastNow) }

// drawnQuery is a query that a state as likely as not covers.
func (g *library) drawnQuery(s impl.State) (int, span) {
	tier := g.r.Intn(3)
	width := plainWidths[tier]
	low, high := s.Low[tier]/width, s.High[tier]/width
	from := low + g.r.Intn(high-low+1)
	to := from + g.r.Intn(high-from+1)
	switch g.r.Intn(9) {
	case 0:
		from = max(low-1, 0)
	case 1:
		to = high + 1
	case 2:
		return tier, span{from * width, min(to*width+1, 100000)}
	}
	return tier, span{min(from*width, 100000), min(to*width, 100000)}
}

// read lets a reader step; an idle one is asked first, now and then. What it tells at its end has to be what the samples make.
func (g *library) read(i int) {
	g.t.Helper()
	r := g.readers[i]
	if r.Phase == impl.RdIdle {
		if g.r.Intn(6) > 0 {
			return
		}
		tier, s := g.drawnQuery(plainState(g.x))
		r, _ = wantAsked(g.t, "in a library", r, tier, s)
	}
	y, r, over, _ := wantQuery(g.t, "in a library", g.x, r, g.clock())
	if over {
		g.told[[2]int{r.Tier, r.Code}]++
		if want := foldOf(samplesIn(g.acked, span{r.From, r.To})); r.Code == impl.OK && r.Got != want {
			g.t.Errorf("tier %d from %d to %d: got %v, want %v", r.Tier, r.From, r.To, r.Got, want)
		}
	}
	g.x, g.readers[i] = y, r
}

// sweep takes one thing away that rests, unless a pin may still hold.
func (g *library) sweep() {
	s := plainState(g.x)
	if len(s.Tombs) == 0 || len(plainPins(g.x, g.clock())) > 0 {
		return
	}
	key := s.Tombs[0].Key
	if _, there := objectOf(g.x, key); there {
		g.x = without(g.x, key)
		g.swept++
	} else if len(g.x.Objects) < 290 {
		g.x = withRecords(g.t, g.x, purging(key))
	}
}

func (g *library) happenAll() {
	g.t.Helper()
	switch n := g.r.Intn(200); {
	case n < 50:
		g.read(g.r.Intn(2))
	case n < 60:
		g.sweep()
	case n < 61:
		i := g.r.Intn(2)
		g.readers[i] = impl.Reader{Id: 4 + i}
	case n < 63:
		g.now += g.r.Intn(30)
	case n < 68:
		g.deliver(g.r.Intn(3))
	default:
		g.happen()
	}
}

// Whatever is beside a query, and whoever crashes: an answer is what all samples of its range make, and nothing that a reader has a pin for is gone.
func TestP11QueriesBesideAllOthers(t *testing.T) {
	told, swept := map[[2]int]int{}, 0
	for seed := range 12 {
		g := newLibrary(t, 3000+seed, told)
		for range 1500 {
			g.happenAll()
			if t.Failed() {
				t.Fatal("seed", seed)
			}
		}
		swept += g.swept
	}
	codes := map[int]int{}
	for pair, n := range told {
		codes[pair[1]] += n
	}
	wantSeen(t, codes, 10, impl.OK, impl.ErrRange, impl.ErrBelow, impl.ErrGap, impl.ErrLate)
	for tier := range 3 {
		if told[[2]int{tier, impl.OK}] < 50 {
			t.Errorf("hardly any answer of tier %d: %v", tier, told)
		}
	}
	if swept < 30 {
		t.Errorf("hardly anything is swept: %d", swept)
	}
}

// drawnReader is a right reader as likely as not to have something to do with a state.
func (g *library) drawnReader(s impl.State) impl.Reader {
	tier, asked := g.drawnQuery(s)
	r := impl.Reader{Id: g.r.Intn(10), Phase: g.r.Intn(5), Tier: tier, From: asked.from, To: asked.to, Until: min(max(g.now+g.r.Intn(40)-5, 0), 200000), Code: g.r.Intn(20)}
	own := slices.DeleteFunc(slices.Clone(s.Entries), func(e impl.Entry) bool { return e.Tier != tier })
	for range g.r.Intn(4) {
		if len(own) > 0 {
			r.Left = append(r.Left, own[g.r.Intn(len(own))])
		} else {
			r.Left = append(r.Left, leftOf(tier))
		}
	}
	if g.r.Intn(3) > 0 {
		r.Got = counted(0, 1+g.r.Intn(1000)*g.r.Intn(2), g.r.Intn(100)).Agg
	}
	if tier > 0 && g.r.Intn(10) == 0 && len(g.x.Objects) < 290 {
		// Something too large for a reader, and that only.
		e := leftOf(tier)
		g.x = laid(g.x, e.Key, bucketsWritten([]impl.Bucket{counted(r.From, 995+g.r.Intn(10), 1)}))
		r.Left = append([]impl.Entry{e}, r.Left...)
	}
	if !plainReader(r) {
		g.t.Fatal("a drawn reader is not right", r)
	}
	return r
}

// Whatever was done to a store, and whichever reader it is, no step changes more than one object, and that is the reader's own pin.
func TestP11NoStepChangesMoreThanOneObject(t *testing.T) {
	// seen counts the steps by phase and how they end: the code, or how the query goes on (100) or is over (101).
	seen := map[[2]int]int{}
	for seed := range 40 {
		g := newLibrary(t, 4000+seed, map[[2]int]int{})
		if seed%2 == 1 {
			g.x, _ = queryStore(t)
			g.now = 40
		}
		step := func(x impl.Store, r impl.Reader) (impl.Store, impl.Reader) {
			y, v, over, code := wantQuery(t, fmt.Sprint("seed ", seed), x, r, g.clock())
			how := code
			switch {
			case over:
				how = 101
			case code == impl.OK && v.Phase != impl.RdUnpin:
				how = 100
			case code == impl.OK:
				how = v.Code
			}
			seen[[2]int{r.Phase, how}]++
			return y, v
		}
		for n := range 300 {
			g.happen()
			if g.r.Intn(3) == 0 {
				g.harm()
			}
			i := g.r.Intn(2)
			if g.r.Intn(2) == 0 {
				g.readers[i] = g.drawnReader(plainState(g.x))
			}
			if len(g.x.Objects) < 290 {
				g.x, g.readers[i] = step(g.x, g.readers[i])
			}
			if len(g.x.Objects) < 300 && n%5 == 0 {
				r := g.drawnReader(plainState(g.x))
				step(fullWith(g.x), r)
				step(lateWith(g.x), r)
			}
			if t.Failed() {
				t.FailNow()
			}
		}
	}
	wantSeen(t, seen, 10, numbered(
		[]int{impl.ErrIdle},
		[]int{100, impl.ErrFull},
		[]int{100, impl.ErrRange, impl.ErrBelow, impl.ErrGap},
		[]int{100, impl.OK, impl.ErrLate, impl.ErrNone, impl.ErrDamaged, impl.ErrMany},
		[]int{101},
	)...)
}
