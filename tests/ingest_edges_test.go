package tests

import (
	"fmt"
	"slices"
	"testing"

	"loop.example/g00601/impl"
)

func TestP10NewIngesters(t *testing.T) {
	for id := range 10 {
		g, code := impl.NewIngester(id)
		if code != impl.OK || !alikeIngesters(g, impl.Ingester{Id: id}) || !impl.IngesterOK(g) {
			t.Errorf("NewIngester(%d) = %v, code %d", id, g, code)
		}
	}
	for _, id := range wrongWhos() {
		if g, code := impl.NewIngester(id); code != impl.ErrRange || !alikeIngesters(g, impl.Ingester{}) {
			t.Errorf("NewIngester(%d) = %v, code %d", id, g, code)
		}
	}
}

// ingesterCase is an ingester, right or not, and what was done to it.
type ingesterCase struct {
	why string
	g   impl.Ingester
}

// baseIngesters are right: without a batch, with one of 1, of several and of 8 samples, and with those put.
func baseIngesters() []impl.Ingester {
	list := []impl.Ingester{{}, {Id: 9}}
	for i, batch := range [][]impl.Sample{samplesOf(40, 1, 7), samplesOf(0, 1, 7), samplesOf(99999, 1, 7), samplesOf(30, 7, 1, -2, 3), samplesOf(99992, 1, 1, 2, 3, 4, 5, 6, 7, 8), samplesOf(5, 3, 1, 2, 3, 4, 5, 6, 7, 8)} {
		list = append(list, holding(i, batch...), putting(i, 14, batch[0].T, batch...), putting(9-i, 999999, batch[0].T/2, batch...))
	}
	return list
}

// batchCases are lists of samples around the bounds of their number, and all that are none.
func batchCases() [][]impl.Sample {
	lists := append(wrongLists(), mixedLists()...)
	for _, n := range []int{0, 1, 2, 7, 8, 9, 10, 4095, 4096, 4097} {
		lists = append(lists, steady(n, 1), samplesOf(50, 2, make([]int, n)...))
	}
	for _, n := range []int{8, 9, 4096, 4097} {
		fallen := steady(n, 1)
		fallen[n-1] = fallen[n-2]
		first := steady(n, 1)
		first[0].V = 1000001
		lists = append(lists, fallen, first)
	}
	return append(lists, []impl.Sample{{T: 99998, V: -1000000}, {T: 99999, V: 1000000}})
}

// ingesterCases are ingesters around each bound of Id, Seq, From and To, of the batch and of what is put.
func ingesterCases() []ingesterCase {
	const least, most = -1 << 63, 1<<63 - 1
	var list []ingesterCase
	for i, base := range baseIngesters() {
		add := func(why string, change func(g *impl.Ingester)) {
			list = append(list, ingesterCase{fmt.Sprintf("base %d, %s", i, why), ingesterWith(base, change)})
		}
		add("as it is", func(*impl.Ingester) {})
		add("put or not", func(g *impl.Ingester) { g.Put = !g.Put })
		add("nothing put", func(g *impl.Ingester) { g.Seq, g.From, g.To, g.Put = 0, 0, 0, false })
		add("zero put", func(g *impl.Ingester) { g.Seq, g.From, g.To, g.Put = 0, 0, 0, true })
		for _, id := range []int{-1, 0, 1, 8, 9, 10, 11, least, most, 1 << 32, 1<<32 + 4} {
			add(fmt.Sprint("Id ", id), func(g *impl.Ingester) { g.Id = id })
		}
		for _, seq := range []int{-1, 0, 1, 2, 999998, 999999, 1000000, 1000001, least, most, 1 << 32, 1<<32 + 5} {
			add(fmt.Sprint("Seq ", seq), func(g *impl.Ingester) { g.Seq = seq })
		}
		first, end := 0, 0
		if len(base.Batch) > 0 {
			first, end = base.Batch[0].T, base.Batch[len(base.Batch)-1].T+1
		}
		for _, at := range []int{-1, 0, 1, first - 1, first, first + 1, end - 2, end - 1, end, end + 1, 100000, 100001, least, most, 1 << 32, 1<<32 + first} {
			add(fmt.Sprint("From ", at), func(g *impl.Ingester) { g.From = at })
			add(fmt.Sprint("To ", at), func(g *impl.Ingester) { g.To = at })
			add(fmt.Sprint("From and To ", at), func(g *impl.Ingester) { g.From, g.To = at, at })
		}
		for k, batch := range batchCases() {
			add(fmt.Sprint("batch ", k), func(g *impl.Ingester) { g.Batch = batch })
			if len(batch) > 0 {
				add(fmt.Sprint("its own batch ", k), func(g *impl.Ingester) { g.Batch, g.From, g.To = batch, 0, batch[len(batch)-1].T+1 })
				add(fmt.Sprint("batch put ", k), func(g *impl.Ingester) {
					g.Seq, g.From, g.To, g.Batch, g.Put = 7, batch[0].T, batch[len(batch)-1].T+1, batch, true
				})
			}
		}
	}
	return list
}

func TestP10IngestersThatAreRight(t *testing.T) {
	right, wrong := 0, 0
	for _, c := range ingesterCases() {
		want := plainIngester(c.g)
		if got := impl.IngesterOK(c.g); got != want {
			t.Errorf("%s: IngesterOK = %v, want %v; %.300s", c.why, got, want, fmt.Sprint(c.g))
		}
		if want {
			right++
		} else {
			wrong++
		}
	}
	if right < 300 || wrong < 300 {
		t.Errorf("%d are right, %d are not", right, wrong)
	}
}

// rebatched gives an ingester other samples from first on; if they are put, it tells their end too.
func rebatched(first int, values ...int) func(g *impl.Ingester) {
	return func(g *impl.Ingester) {
		g.Batch = samplesOf(first, 1, values...)
		if g.Put {
			g.To = first + len(values)
		}
	}
}

// What the bounds are, told one by one.
func TestP10BoundsOfIngesters(t *testing.T) {
	none, held, put := impl.Ingester{Id: 4}, holding(4, samplesOf(30, 7, 1, -2, 3)...), putting(4, 14, 25, samplesOf(30, 7, 1, -2, 3)...)
	for _, c := range []struct {
		why              string
		change           func(g *impl.Ingester)
		none, held, puts bool
	}{
		{"as it is", func(g *impl.Ingester) {}, true, true, true},
		{"Id 0", func(g *impl.Ingester) { g.Id = 0 }, true, true, true},
		{"Id 9", func(g *impl.Ingester) { g.Id = 9 }, true, true, true},
		{"Id -1", func(g *impl.Ingester) { g.Id = -1 }, false, false, false},
		{"Id 10", func(g *impl.Ingester) { g.Id = 10 }, false, false, false},
		{"Seq 0", func(g *impl.Ingester) { g.Seq = 0 }, true, true, false},
		{"Seq 1", func(g *impl.Ingester) { g.Seq = 1 }, false, false, true},
		{"Seq 999999", func(g *impl.Ingester) { g.Seq = 999999 }, false, false, true},
		{"Seq 1000000", func(g *impl.Ingester) { g.Seq = 1000000 }, false, false, false},
		{"Seq -1", func(g *impl.Ingester) { g.Seq = -1 }, false, false, false},
		{"From 0", func(g *impl.Ingester) { g.From = 0 }, true, true, true},
		{"From -1", func(g *impl.Ingester) { g.From = -1 }, false, false, false},
		{"From 1", func(g *impl.Ingester) { g.From = 1 }, false, false, true},
		{"From 30", func(g *impl.Ingester) { g.From = 30 }, false, false, true},
		{"From 31", func(g *impl.Ingester) { g.From = 31 }, false, false, false},
		{"To 45", func(g *impl.Ingester) { g.To = 45 }, false, false, true},
		{"To 44", func(g *impl.Ingester) { g.To = 44 }, false, false, false},
		{"To 46", func(g *impl.Ingester) { g.To = 46 }, false, false, false},
		{"To 0", func(g *impl.Ingester) { g.To = 0 }, true, true, false},
		{"To 1", func(g *impl.Ingester) { g.To = 1 }, false, false, false},
		{"Put", func(g *impl.Ingester) { g.Put = true }, false, false, true},
		{"not Put", func(g *impl.Ingester) { g.Put = false }, true, true, false},
		{"no batch", func(g *impl.Ingester) { g.Batch = nil }, true, true, false},
		{"one sample", rebatched(44, 0), true, true, true},
		{"8 samples", rebatched(30, 1, 2, 3, 4, 5, 6, 7, 8), true, true, true},
		{"9 samples", rebatched(30, 1, 2, 3, 4, 5, 6, 7, 8, 9), false, false, false},
		{"times that do not rise", func(g *impl.Ingester) { g.Batch = []impl.Sample{{T: 30}, {T: 44}, {T: 44}} }, false, false, false},
		{"times that fall", func(g *impl.Ingester) { g.Batch = []impl.Sample{{T: 30}, {T: 45}, {T: 44}} }, false, false, false},
		{"a value too great", rebatched(44, 1000001), false, false, false},
		{"the last time", rebatched(99999, 1), true, true, true},
		{"a time too great", rebatched(100000, 1), false, false, false},
	} {
		for i, want := range []bool{c.none, c.held, c.puts} {
			g := ingesterWith([]impl.Ingester{none, held, put}[i], c.change)
			if got := impl.IngesterOK(g); got != want || plainIngester(g) != want {
				t.Errorf("%d, %s: IngesterOK = %v, the plain one %v, want %v; %v", i, c.why, got, plainIngester(g), want, g)
			}
		}
	}
}

func TestP10BatchesThatAreGiven(t *testing.T) {
	none, held, put := impl.Ingester{Id: 4}, holding(4, samplesOf(30, 7, 1, -2, 3)...), putting(4, 14, 25, samplesOf(30, 7, 1, -2, 3)...)
	wrong := impl.Ingester{Id: 10}
	for _, c := range []struct {
		why               string
		list              []impl.Sample
		free, busy, crook int
	}{
		{"none", nil, impl.ErrSize, impl.ErrSize, impl.ErrBad},
		{"an empty list", []impl.Sample{}, impl.ErrSize, impl.ErrSize, impl.ErrBad},
		{"1", steady(1, 1), impl.OK, impl.ErrThere, impl.ErrBad},
		{"8", steady(8, 1), impl.OK, impl.ErrThere, impl.ErrBad},
		{"the same", samplesOf(30, 7, 1, -2, 3), impl.OK, impl.ErrThere, impl.ErrBad},
		{"9", steady(9, 1), impl.ErrSize, impl.ErrSize, impl.ErrBad},
		{"4096", steady(4096, 1), impl.ErrSize, impl.ErrSize, impl.ErrBad},
		{"4097", steady(4097, 1), impl.ErrLong, impl.ErrLong, impl.ErrLong},
		{"1 that is none", []impl.Sample{{T: -1}}, impl.ErrBad, impl.ErrBad, impl.ErrBad},
		{"2 of one time", []impl.Sample{{T: 1}, {T: 1}}, impl.ErrBad, impl.ErrBad, impl.ErrBad},
		{"9 of one time", slices.Repeat([]impl.Sample{{T: 1}}, 9), impl.ErrBad, impl.ErrBad, impl.ErrBad},
		{"4096 of one time", slices.Repeat([]impl.Sample{{T: 1}}, 4096), impl.ErrBad, impl.ErrBad, impl.ErrBad},
		{"4097 of one time", slices.Repeat([]impl.Sample{{T: 1}}, 4097), impl.ErrLong, impl.ErrLong, impl.ErrLong},
	} {
		if g, code := wantGiven(t, c.why, none, c.list); code != c.free || code == impl.OK && !alikeIngesters(g, holding(4, c.list...)) {
			t.Errorf("%s, to one without a batch: code %d, want %d; %v", c.why, code, c.free, g)
		}
		for _, busy := range []impl.Ingester{held, put} {
			want := impl.Ingester{}
			if c.busy == impl.ErrThere {
				want = busy
			}
			if g, code := wantGiven(t, c.why, busy, c.list); code != c.busy || !alikeIngesters(g, want) {
				t.Errorf("%s, to one with a batch: code %d, want %d; %v, want %v", c.why, code, c.busy, g, want)
			}
		}
		if g, code := wantGiven(t, c.why, wrong, c.list); code != c.crook || !alikeIngesters(g, impl.Ingester{}) {
			t.Errorf("%s, to one that is not right: code %d, want %d; %v", c.why, code, c.crook, g)
		}
	}
}

// Each ingester that there is, right or not, is handed each list.
func TestP10BatchesThatAreGivenToAll(t *testing.T) {
	cases, lists := ingesterCases(), batchCases()
	for i, c := range cases {
		for k := range 3 {
			wantGiven(t, c.why, c.g, lists[(5*i+k*7)%len(lists)])
		}
	}
	for _, g := range append(baseIngesters(), impl.Ingester{Id: -1}, impl.Ingester{Seq: 1}, impl.Ingester{Put: true}) {
		for _, list := range lists {
			wantGiven(t, "each list", g, list)
		}
	}
}

// What is given is delivered as it is.
func TestP10RightBatchesAreDelivered(t *testing.T) {
	for _, list := range rightBatches() {
		if len(list) == 0 {
			continue
		}
		g, code := wantGiven(t, "a right batch", impl.Ingester{Id: 2}, list)
		wantCode(t, "a right batch", code, impl.OK)
		x := puts(t, "a right batch", mixedStore(), g, 1, 0)
		x = adds(t, "a right batch", x, putting(2, 1, 0, list...))
		data, _, code := impl.GetObject(x, keyed(0, 1, 2))
		if back, ok := plainSamples(data); !ok || code != impl.OK || !slices.Equal(back, list) {
			t.Errorf("%v: %q, code %d", list, data, code)
		}
	}
}

func TestP10DeliveriesOfWhatIsNotRight(t *testing.T) {
	for _, x := range wrongLogStores() {
		for _, g := range append(baseIngesters(), impl.Ingester{Id: 10}, impl.Ingester{Put: true}) {
			notDelivered(t, "a wrong store", x, g, impl.ErrBad)
		}
	}
	several := severalStore(t)
	stores := []impl.Store{several, impl.NewStore(), lateWith(fullWith(several)), logged(impl.NewStore(), slices.Repeat([]string{"what"}, 300)...)}
	for i, c := range ingesterCases() {
		if !plainIngester(c.g) {
			notDelivered(t, c.why, stores[i%len(stores)], c.g, impl.ErrBad)
		}
	}
}

// All right ingesters that there are, over stores of many kinds.
func TestP10DeliveriesOfAllIngesters(t *testing.T) {
	several := severalStore(t)
	own := laid(laid(several, keyed(0, 14, 3), "what"), recordName(999999), "2,9,0,0,0 ")
	stores := append(rightStores(), several, own, fullWith(several), fullWith(own), lateWith(own), logged(mixedStore(), shortLog()...), logged(impl.NewStore(), slices.Repeat([]string{"what"}, 300)...), fetchStore())
	for _, c := range ingesterCases() {
		if !plainIngester(c.g) {
			continue
		}
		for _, x := range stores {
			y, g, _, _ := wantDelivery(t, c.why, x, c.g)
			wantDelivery(t, c.why+", once more", y, g)
		}
	}
}

func TestP10SameIngesters(t *testing.T) {
	changes := []func(g *impl.Ingester){
		func(g *impl.Ingester) { g.Id++ }, func(g *impl.Ingester) { g.Seq++ }, func(g *impl.Ingester) { g.From-- }, func(g *impl.Ingester) { g.To++ }, func(g *impl.Ingester) { g.Put = !g.Put },
		func(g *impl.Ingester) { g.Batch = append(g.Batch, impl.Sample{}) }, func(g *impl.Ingester) { g.Batch = append([]impl.Sample{{T: 1, V: 9}}, g.Batch...) },
		func(g *impl.Ingester) { g.Id = 1<<32 + g.Id }, func(g *impl.Ingester) { g.Seq += 1 << 32 },
	}
	ofBatch := []func(g *impl.Ingester){
		func(g *impl.Ingester) { g.Batch = nil }, func(g *impl.Ingester) { g.Batch = g.Batch[1:] }, func(g *impl.Ingester) { g.Batch = g.Batch[:len(g.Batch)-1] },
		func(g *impl.Ingester) { g.Batch[0].T-- }, func(g *impl.Ingester) { g.Batch[len(g.Batch)-1].T++ }, func(g *impl.Ingester) { g.Batch[0].V++ }, func(g *impl.Ingester) { g.Batch[len(g.Batch)-1].V-- },
		func(g *impl.Ingester) { g.Batch = append(g.Batch, g.Batch[len(g.Batch)-1]) },
	}
	crooked := impl.Ingester{Id: -7, Seq: -1, From: 9, To: 3, Batch: []impl.Sample{{T: 5}, {T: 5, V: 1 << 40}}, Put: true}
	for _, base := range append(baseIngesters(), crooked, impl.Ingester{Batch: steady(5000, 2)}) {
		if !impl.SameIngester(base, copiedIngester(base)) {
			t.Errorf("%v is not the same as itself", base)
		}
		all := changes
		if len(base.Batch) > 0 {
			all = append(slices.Clone(changes), ofBatch...)
		}
		for i, change := range all {
			h := ingesterWith(base, change)
			if impl.SameIngester(base, h) || impl.SameIngester(h, base) {
				t.Errorf("%v is the same behind change %d", base, i)
			}
		}
	}
	none, empty := impl.Ingester{Id: 1}, impl.Ingester{Id: 1, Batch: []impl.Sample{}}
	if !impl.SameIngester(none, empty) || !impl.SameIngester(empty, none) || !impl.SameIngester(impl.Ingester{}, impl.Ingester{}) {
		t.Error("nil is not the same as an empty list")
	}
	turned := impl.Ingester{Batch: []impl.Sample{{T: 2, V: 1}, {T: 1, V: 2}}}
	if impl.SameIngester(turned, ingesterWith(turned, func(g *impl.Ingester) { g.Batch[0], g.Batch[1] = g.Batch[1], g.Batch[0] })) {
		t.Error("the same in another order")
	}
}
