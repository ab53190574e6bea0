package tests

import (
	"fmt"
	"slices"
	"testing"

	"loop.example/g00601/impl"
)

// severalStore has thirteen records, two of them not to be read and one not taken; raw data go from 12 up to 25, tier 1 up to 20, and one raw entry rests.
func severalStore(t *testing.T) impl.Store {
	t.Helper()
	x := rawStore(t, mixedStore(), []impl.Sample{{T: 3, V: 1}, {T: 11, V: 2}})
	x = laid(x, recordName(2), "what")
	x = rawStore(t, x, []impl.Sample{{T: 14, V: -4}}, []impl.Sample{{T: 18, V: 7}, {T: 24, V: 9}})
	x = withRecords(t, x, claiming(4), publishing(4, 1, 0, 5), publishing(4, 1, 5, 10), publishing(4, 1, 10, 15), publishing(4, 1, 15, 20))
	x = withRecords(t, x, retiring(4, impl.Entry{From: 0, To: 12, Key: keyed(0, 1, 2)}), adding(30, 35, keyed(0, 11, 2)))
	x = laid(x, recordName(12), "1,0,0,25,30 raw/000012-00000")
	return withRecords(t, x, publishing(4, 2, 0, 20))
}

// behindSeveral is the batch that goes behind those of severalStore.
func behindSeveral() []impl.Sample {
	return []impl.Sample{{T: 27, V: 5}, {T: 28, V: -1000000}, {T: 60, V: 0}}
}

func TestP10AWholeWayOverAnEmptyLog(t *testing.T) {
	for _, x := range []impl.Store{impl.NewStore(), mixedStore(), numberedStore(impl.MaxObjects - 2), fetchStore(), withLease(mixedStore(), "what")} {
		for _, id := range []int{0, 2, 9} {
			g, code := impl.NewIngester(id)
			wantCode(t, "NewIngester", code, impl.OK)
			g, code = impl.GiveBatch(g, samplesOf(3, 4, 1, 2))
			wantCode(t, "GiveBatch", code, impl.OK)
			y, g, done, code := wantDelivery(t, "the batch", x, g)
			key := fmt.Sprintf("raw/000001-00000%d", id)
			if data, _ := objectOf(y, key); data != "3=1 7=2" || done || code != impl.OK {
				t.Errorf("put: %q, done %v, code %d", data, done, code)
			}
			if want := (impl.Ingester{Id: id, Seq: 1, To: 8, Batch: samplesOf(3, 4, 1, 2), Put: true}); !alikeIngesters(g, want) {
				t.Errorf("put: %v, want %v", g, want)
			}
			z, g, done, code := wantDelivery(t, "the record", y, g)
			if text, _ := objectOf(z, "man/000001"); text != "1,0,0,0,8 "+key || !done || code != impl.OK {
				t.Errorf("added: %q, done %v, code %d", text, done, code)
			}
			if !alikeIngesters(g, impl.Ingester{Id: id}) {
				t.Errorf("behind it: %v", g)
			}
			wantReplayed(t, "behind it", z, impl.State{Seq: 1, High: [3]int{8}, Entries: []impl.Entry{{To: 8, Key: key}}}, impl.OK)
			if _, _, _, code := wantDelivery(t, "nothing left", z, g); code != impl.ErrIdle {
				t.Error("nothing left", code)
			}
		}
	}
}

func TestP10AWholeWayOverSeveralEntries(t *testing.T) {
	x := severalStore(t)
	before := plainState(x)
	if before.Seq != 13 || before.High != [3]int{25, 20, 20} || before.Low != [3]int{12} || len(before.Tombs) != 1 {
		t.Fatal("the log", before)
	}
	batch := behindSeveral()
	y := puts(t, "the batch", x, holding(3, batch...), 14, 25)
	if data, _ := objectOf(y, "raw/000014-000003"); data != "27=5 28=-1000000 60=0" {
		t.Errorf("put: %q", data)
	}
	wantReplayed(t, "put, and in no record yet", y, before, impl.OK)
	z := adds(t, "the record", y, putting(3, 14, 25, batch...))
	if text, _ := objectOf(z, "man/000014"); text != "1,0,0,25,61 raw/000014-000003" {
		t.Errorf("added: %q", text)
	}
	after := copiedState(before)
	after.Seq, after.High[0] = 14, 61
	after.Entries = append(after.Entries, impl.Entry{From: 25, To: 61, Key: "raw/000014-000003"})
	wantReplayed(t, "added", z, after, impl.OK)
}

// Batches of one ingester follow each other, and what is not to be read in between has a number too.
func TestP10OneBatchBehindTheOther(t *testing.T) {
	x, from := mixedStore(), 0
	var all []impl.Sample
	for n := range 60 {
		if n%7 == 3 {
			x = laid(x, recordName(plainState(x).Seq+1), "what")
		}
		seq := plainState(x).Seq + 1
		batch := samplesOf(from+n%3, 1+n%4, make([]int, 1+n%8)...)
		for i := range batch {
			batch[i].V = n - i*i
		}
		x = puts(t, fmt.Sprint("batch ", n), x, holding(2, batch...), seq, from)
		x = adds(t, fmt.Sprint("batch ", n), x, putting(2, seq, from, batch...))
		from = batch[len(batch)-1].T + 1
		all = append(all, batch...)
	}
	s := plainState(x)
	var told []impl.Sample
	for _, e := range s.Entries {
		data, _ := objectOf(x, e.Key)
		list, ok := plainSamples(data)
		if !ok || !slices.Equal(list, samplesIn(all, span{e.From, e.To})) {
			t.Errorf("%v: %q", e, data)
		}
		told = append(told, list...)
	}
	if !slices.Equal(told, all) || s.High[0] != from || s.Seq != 69 || len(s.Entries) != 60 {
		t.Error("all batches", s.High, s.Seq, len(s.Entries))
	}
}

// Who puts first may add last: its number is taken then, and it begins with its batch anew, as often as need be.
func TestP10TwoIngestersTakeTurns(t *testing.T) {
	a, b := holding(2, samplesOf(50, 1, 7, 8)...), holding(3, samplesOf(4, 1, 1)...)
	x := severalStore(t)
	for n := range 5 {
		seq, from := 14+n, 25
		if n > 0 {
			from = 26 + n
		}
		b.Batch = samplesOf(26+n, 1, n)
		x = puts(t, "the first one", x, a, seq, from)
		x = puts(t, "the second one", x, b, seq, from)
		x = adds(t, "the second one", x, putting(3, seq, from, b.Batch...))
		again(t, "the first one", x, putting(2, seq, from, a.Batch...))
	}
	x = puts(t, "alone", x, a, 19, 31)
	x = adds(t, "alone", x, putting(2, 19, 31, a.Batch...))
	s := plainState(x)
	if last := s.Entries[len(s.Entries)-1]; s.High[0] != 52 || last != (impl.Entry{From: 31, To: 52, Key: "raw/000019-000002"}) {
		t.Error("both", s.High, last)
	}
}

// Who began anew may be late by then, as the other one's batch went further.
func TestP10LateBehindTheOther(t *testing.T) {
	a, b := holding(2, samplesOf(9, 1, 7)...), holding(3, samplesOf(2, 7, 1, 2)...)
	x := puts(t, "the first one", mixedStore(), a, 1, 0)
	x = puts(t, "the second one", x, b, 1, 0)
	x = adds(t, "the second one", x, putting(3, 1, 0, b.Batch...))
	y, a, done, code := wantDelivery(t, "the first one", x, putting(2, 1, 0, a.Batch...))
	if code != impl.OK || done || !alikeIngesters(a, holding(2, samplesOf(9, 1, 7)...)) || !alike(y, x) {
		t.Error("its number is taken", a, done, code)
	}
	loses(t, "behind the other", x, a, impl.ErrLate)
	ahead := holding(2, samplesOf(10, 1, 7)...)
	puts(t, "behind the frontier", x, ahead, 2, 10)
}

// Whatever took the number: a record of any kind, one that the log does not take, what cannot be read, the same record.
func TestP10NumbersThatAreTaken(t *testing.T) {
	x := severalStore(t)
	g := putting(3, 14, 25, behindSeveral()...)
	own := recordWritten(adding(25, 61, keyed(0, 14, 3)))
	for _, text := range []string{"2,5,0,0,0 ", "2,1,0,0,0 ", "", "what", own, "1,0,0,25,40 raw/000014-000002", "3,4,1,20,25 t1/000020-000004", "5,0,0,0,0 raw/000001-000002", "1,0,0,90,95 raw/000014-000003"} {
		taken := laid(x, recordName(14), text)
		for _, y := range []impl.Store{taken, fullWith(taken), lateWith(taken)} {
			again(t, "taken by "+text, y, g)
		}
	}
	// Behind its own record a batch is late, as it is in the log already.
	again(t, "its own", laid(x, recordName(14), own), g)
	loses(t, "its own", laid(x, recordName(14), own), holding(3, behindSeveral()...), impl.ErrLate)
	// Numbers far off are taken by what has their key, wherever the log ends.
	for _, seq := range []int{1, 2, 13, 300, 999999} {
		far := laid(x, recordName(seq), "2,9,0,0,0 ")
		again(t, "far off", far, putting(3, seq, 25, behindSeveral()...))
	}
}

// A number that is free is all that is asked for: whether the log takes the record is not.
func TestP10NumbersThatAreFree(t *testing.T) {
	for _, x := range []impl.Store{impl.NewStore(), severalStore(t), withObjects(mixedStore(), map[string]string{recordName(14): "2,9,0,0,0 "}), without(severalStore(t), recordName(4))} {
		for _, seq := range []int{1, 2, 4, 13, 14, 15, 300, 999998, 999999} {
			for _, g := range []impl.Ingester{putting(3, seq, 25, behindSeveral()...), putting(0, seq, 0, samplesOf(0, 1, 7)...), putting(9, seq, 99999, samplesOf(99999, 1, 7)...)} {
				if _, there := objectOf(x, recordName(seq)); there {
					again(t, "taken", x, g)
				} else {
					adds(t, "free", x, g)
				}
			}
		}
	}
}

// What lies under the data key, of another life for instance, is written over.
func TestP10KeysThatAreThere(t *testing.T) {
	x := severalStore(t)
	g := holding(3, behindSeveral()...)
	key := keyed(0, 14, 3)
	for _, data := range []string{"27=5 28=-1000000 60=0", "27=5", "", "what", "5:1,1,1,1,1,1", text(impl.MaxData)} {
		y := laid(x, key, data)
		z := puts(t, fmt.Sprintf("over %.20q", data), y, g, 14, 25)
		if len(z.Objects) != len(y.Objects) || z.Next != y.Next+1 {
			t.Errorf("over %.20q: %d objects, then %d; versions up to %d, then %d", data, len(y.Objects), len(z.Objects), y.Next, z.Next)
		}
		adds(t, "behind it", z, putting(3, 14, 25, g.Batch...))
	}
	// Keys of others stay.
	y := withObjects(x, map[string]string{keyed(0, 14, 2): "27=5", keyed(0, 13, 3): "1=1", keyed(0, 15, 3): "what", keyed(1, 14, 3): "", keyed(2, 14, 3): ""})
	puts(t, "beside the others", y, g, 14, 25)
}

func TestP10TimesAtTheFrontier(t *testing.T) {
	several := severalStore(t)
	for _, c := range []struct {
		x         impl.Store
		seq, high int
	}{
		{several, 14, 25},
		{rawStore(t, mixedStore(), samplesOf(0, 1, 4)), 2, 1},
		{rawStore(t, mixedStore(), samplesOf(3, 99994, 1, 2)), 2, 99998},
		// Old entries that went leave the frontier where it is.
		{withRecords(t, several, claiming(5), publishing(5, 1, 20, 25), retiring(5, impl.Entry{From: 12, To: 15, Key: keyed(0, 3, 2)}), retiring(5, impl.Entry{From: 15, To: 25, Key: keyed(0, 4, 2)})), 18, 25},
		// So does what the log does not take.
		{withRecords(t, several, adding(24, 50, keyed(0, 14, 2)), adding(26, 50, keyed(0, 15, 2)), adding(25, 50, keyed(0, 15, 2))), 17, 25},
	} {
		for _, more := range [][]int{nil, {3}, {3, 4, 5, 6, 7, 8, 9}} {
			values := append([]int{1}, more...)
			if c.high+len(values) < 100000 {
				puts(t, "one above", c.x, holding(2, samplesOf(c.high+1, 1, values...)...), c.seq, c.high)
			}
			if c.high+len(values) <= 100000 {
				puts(t, "at it", c.x, holding(2, samplesOf(c.high, 1, values...)...), c.seq, c.high)
			}
			// All behind the first time may be behind the frontier: it is late all the same.
			if c.high-1+len(values) <= 100000 {
				loses(t, "one below", c.x, holding(2, samplesOf(c.high-1, 1, values...)...), impl.ErrLate)
			}
		}
		loses(t, "far below", c.x, holding(2, impl.Sample{T: 0}, impl.Sample{T: 99999}), impl.ErrLate)
		puts(t, "at the last time", c.x, holding(2, impl.Sample{T: 99999, V: -1}), c.seq, c.high)
	}
	whole := rawStore(t, mixedStore(), samplesOf(3, 99996, 1, 2))
	for _, at := range []int{0, 50000, 99998, 99999} {
		loses(t, "behind all times", whole, holding(2, impl.Sample{T: at}), impl.ErrLate)
	}
	puts(t, "ahead of all", impl.NewStore(), holding(2, impl.Sample{}), 1, 0)
}

// The last time of all is as good as others, on both steps.
func TestP10TheLastTime(t *testing.T) {
	batch := samplesOf(99992, 1, 1, 2, 3, 4, 5, 6, 7, 8)
	x := puts(t, "the batch", severalStore(t), holding(9, batch...), 14, 25)
	x = adds(t, "the record", x, putting(9, 14, 25, batch...))
	if s := plainState(x); s.High[0] != 100000 || s.Seq != 14 {
		t.Error("added", s.High, s.Seq)
	}
}

func TestP10StoresThatAreFull(t *testing.T) {
	for _, x := range []impl.Store{impl.NewStore(), severalStore(t)} {
		seq, from := plainState(x).Seq+1, plainState(x).High[0]
		g := holding(3, behindSeveral()...)
		key := keyed(0, seq, 3)
		put := laid(x, key, "what")
		loses(t, "no room for the batch", fullWith(x), g, impl.ErrFull)
		loses(t, "no version for the batch", lateWith(x), g, impl.ErrFull)
		loses(t, "no version over what is there", lateWith(put), g, impl.ErrFull)
		loses(t, "neither", lateWith(fullWith(put)), g, impl.ErrFull)
		puts(t, "room over what is there", fullWith(put), g, seq, from)
		for _, y := range []impl.Store{x, put} {
			last := fullWith(laid(y, "zz", ""))
			last = without(last, "zz")
			puts(t, "room for one", last, g, seq, from)
			late := lateWith(y)
			late.Next--
			puts(t, "a version for one", late, g, seq, from)
		}
		// It is late ahead of that.
		late := holding(3, samplesOf(max(from, 1)-1, 50, 1, 2)...)
		for _, y := range []impl.Store{fullWith(x), lateWith(x), fullWith(put)} {
			if from > 0 {
				loses(t, "late", y, late, impl.ErrLate)
			}
		}
		h := putting(3, seq, from, behindSeveral()...)
		loses(t, "no room for the record", fullWith(x), h, impl.ErrFull)
		loses(t, "no room for the record, with the batch", fullWith(put), h, impl.ErrFull)
		loses(t, "no version for the record", lateWith(put), h, impl.ErrFull)
		last := without(fullWith(laid(x, "zz", "")), "zz")
		adds(t, "room for the record", last, h)
	}
}

// The longest logs that a store can have.
func TestP10TheLongestLogs(t *testing.T) {
	texts := slices.Repeat([]string{"what"}, impl.MaxObjects)
	g := holding(3, behindSeveral()...)
	loses(t, "of 300 records", logged(impl.NewStore(), texts...), g, impl.ErrFull)
	again(t, "of 300 records", logged(impl.NewStore(), texts...), putting(3, 300, 0, g.Batch...))
	loses(t, "of 300 records", logged(impl.NewStore(), texts...), putting(3, 301, 0, g.Batch...), impl.ErrFull)
	x := puts(t, "of 299 records", logged(impl.NewStore(), texts[:299]...), g, 300, 0)
	loses(t, "of 299 records and the batch", x, putting(3, 300, 0, g.Batch...), impl.ErrFull)
	x = puts(t, "of 298 records", logged(impl.NewStore(), texts[:298]...), g, 299, 0)
	adds(t, "of 298 records and the batch", x, putting(3, 299, 0, g.Batch...))
}

func TestP10WithoutABatch(t *testing.T) {
	stores := append(rightStores(), severalStore(t), fullWith(severalStore(t)), lateWith(severalStore(t)))
	for _, x := range stores {
		for id := range 10 {
			for _, g := range []impl.Ingester{{Id: id}, {Id: id, Batch: []impl.Sample{}}} {
				y, h, done, code := wantDelivery(t, "without a batch", x, g)
				if code != impl.ErrIdle || done || !alikeIngesters(h, impl.Ingester{Id: id}) || !alike(y, x) {
					t.Errorf("without a batch: code %d, done %v, %v, store as it was: %v", code, done, h, alike(y, x))
				}
			}
		}
	}
}
