package tests

import (
	"fmt"
	"slices"
	"testing"

	"loop.example/g00601/impl"
)

// busyReader is in a phase, with something in every field; what is left to it is in fetchStore.
func busyReader(phase int) impl.Reader {
	return impl.Reader{
		Id: 4, Phase: phase, From: 9, To: 15, Until: 40, Code: impl.ErrHeld,
		Left: []impl.Entry{{From: 8, To: 12, Key: keyed(0, 3, 2)}, {From: 12, To: 20, Key: keyed(0, 4, 3)}},
		Got:  impl.Agg{Count: 2, Sum: 3, Min: 1, Max: 2, First: 2, Last: 1},
	}
}

func TestP11WithoutAQuery(t *testing.T) {
	x, _ := queryStore(t)
	for _, x := range append(rightStores(), x, fullWith(x), lateWith(x), laid(x, "pin/4", "40")) {
		for _, r := range []impl.Reader{{}, {Id: 9}, busyReader(impl.RdIdle), {Id: 4, Until: 200000, Code: 19, Tier: 2, To: 100000}} {
			for _, now := range []int{0, 10, lastNow} {
				y, v, over, code := wantQuery(t, "without a query", x, r, now)
				if code != impl.ErrIdle || over || !alikeReaders(v, r) || !alike(y, x) {
					t.Errorf("%v at %d: code %d, over %v, reader %v, store as it was: %v", r, now, code, over, v, alike(y, x))
				}
			}
		}
	}
}

func TestP11Pinning(t *testing.T) {
	x, _ := queryStore(t)
	for _, r := range []impl.Reader{asking(0, 2, 20, 40), asking(9, 0, 0, 0), busyReader(impl.RdPin)} {
		pin := pinName(r.Id)
		for _, now := range []int{0, 1, 10, 100000, lastNow} {
			until := fmt.Sprint(now + 30)
			looking := readerWith(r, func(r *impl.Reader) { r.Phase, r.Until = impl.RdLook, now+30 })
			for _, y := range []impl.Store{impl.NewStore(), mixedStore(), x, numberedStore(impl.MaxObjects - 1)} {
				reads(t, "a pin", y, r, now, laid(y, pin, until), looking)
				ends(t, "no version left", lateWith(y), r, now, impl.ErrFull)
				ends(t, "no room", fullWith(y), r, now, impl.ErrFull)
				last := lateWith(y)
				last.Next--
				reads(t, "a version for one", last, r, now, laid(last, pin, until), looking)
				// Over a pin that is there no room is needed, but a version is.
				for _, data := range []string{until, "5", "200000", "", "what", text(impl.MaxData)} {
					old := laid(y, pin, data)
					reads(t, "over an old pin", old, r, now, laid(old, pin, until), looking)
					reads(t, "over an old pin of a full store", fullWith(old), r, now, laid(fullWith(old), pin, until), looking)
					ends(t, "no version for a new pin", lateWith(old), r, now, impl.ErrFull)
					ends(t, "no version for a new pin of a full store", lateWith(fullWith(old)), r, now, impl.ErrFull)
				}
				// Pins of others stay, and are no room.
				others := withObjects(y, map[string]string{"pin/3": "7", "pin/5": "what", "pin/": "", "pin/44": "90"})
				if len(others.Objects) < impl.MaxObjects {
					reads(t, "beside other pins", others, r, now, laid(others, pin, until), looking)
					ends(t, "no room beside other pins", fullWith(others), r, now, impl.ErrFull)
				}
			}
		}
	}
}

// Whoever cannot pin takes no other way than to the end of the query, where an old pin goes as well.
func TestP11PinsThatCannotBePut(t *testing.T) {
	for _, x := range []impl.Store{fullWith(mixedStore()), lateWith(mixedStore()), lateWith(laid(mixedStore(), "pin/4", "33"))} {
		_, r, _, _ := wantQuery(t, "no pin", x, asking(4, 1, 0, 5), 10)
		want := impl.Reader{Id: 4, Phase: 4, Tier: 1, To: 5, Code: impl.ErrFull}
		if !alikeReaders(r, want) {
			t.Errorf("no pin: %v, want %v", r, want)
		}
		unpins(t, "no pin", x, r, 10, without(x, "pin/4"))
	}
}

func TestP11Looking(t *testing.T) {
	x, _ := queryStore(t)
	raw := plainSpanned(plainState(x), 0, span{0, 100000})
	if len(raw) != 5 {
		t.Fatal("raw entries", raw)
	}
	for _, base := range []impl.Reader{asking(4, 0, 0, 0), busyReader(impl.RdLook), {Id: 9, Until: 200000, Code: 19}} {
		at := func(tier, from, to int) impl.Reader {
			return readerWith(base, func(r *impl.Reader) {
				r.Phase, r.Tier, r.From, r.To = impl.RdLook, tier, from, to
				if tier > 0 {
					r.Left = nil
				}
			})
		}
		found := func(r impl.Reader, left ...impl.Entry) impl.Reader {
			return readerWith(r, func(r *impl.Reader) { r.Phase, r.Left = impl.RdFetch, left })
		}
		for _, now := range []int{0, 38, lastNow} {
			for _, y := range []impl.Store{x, fullWith(x), lateWith(x), laid(x, "pin/4", "what"), without(x, keyed(0, 3, 2))} {
				reads(t, "all raw data", y, at(0, 25, 113), now, y, found(at(0, 25, 113), raw...))
				reads(t, "one time", y, at(0, 34, 35), now, y, found(at(0, 34, 35), raw[1]))
				reads(t, "two ends", y, at(0, 33, 36), now, y, found(at(0, 33, 36), raw[:3]...))
				reads(t, "nothing", y, at(0, 34, 34), now, y, found(at(0, 34, 34)))
				reads(t, "a window", y, at(1, 60, 65), now, y, found(at(1, 60, 65), impl.Entry{Tier: 1, From: 60, To: 65, Key: keyed(1, 60, 5)}))
				reads(t, "no window", y, at(1, 60, 60), now, y, found(at(1, 60, 60)))
				reads(t, "wide windows", y, at(2, 60, 100), now, y, found(at(2, 60, 100), impl.Entry{Tier: 2, From: 60, To: 80, Key: keyed(2, 60, 5)}, impl.Entry{Tier: 2, From: 80, To: 100, Key: keyed(2, 80, 5)}))
				for _, c := range []struct{ tier, from, to, code int }{
					{0, 24, 113, impl.ErrBelow}, {0, 25, 114, impl.ErrGap}, {0, 24, 114, impl.ErrBelow}, {0, 24, 24, impl.ErrBelow}, {0, 114, 114, impl.ErrGap},
					{1, 25, 110, impl.ErrBelow}, {1, 30, 115, impl.ErrGap}, {1, 25, 115, impl.ErrBelow}, {1, 25, 25, impl.ErrBelow}, {1, 115, 115, impl.ErrGap},
					{2, 0, 100, impl.ErrBelow}, {2, 20, 120, impl.ErrGap}, {2, 0, 120, impl.ErrBelow}, {2, 0, 0, impl.ErrBelow}, {2, 120, 120, impl.ErrGap},
					// Not multiples of the width, ahead of the others.
					{1, 31, 110, impl.ErrRange}, {1, 30, 109, impl.ErrRange}, {1, 29, 115, impl.ErrRange}, {1, 33, 33, impl.ErrRange}, {1, 25, 113, impl.ErrRange},
					{2, 25, 100, impl.ErrRange}, {2, 20, 95, impl.ErrRange}, {2, 5, 100, impl.ErrRange}, {2, 30, 30, impl.ErrRange}, {2, 20, 110, impl.ErrRange},
				} {
					ends(t, fmt.Sprint(c), y, at(c.tier, c.from, c.to), now, c.code)
				}
			}
		}
	}
}

func TestP11Fetching(t *testing.T) {
	r := busyReader(impl.RdFetch)
	one := readerWith(r, func(r *impl.Reader) {
		r.Left = r.Left[1:]
		r.Got = impl.Agg{Count: 5, Sum: 4, Min: -4, Max: 3, First: 2, Last: -4}
	})
	both := readerWith(one, func(r *impl.Reader) {
		r.Left = nil
		r.Got = impl.Agg{Count: 7, Sum: 15, Min: -4, Max: 6, First: 2, Last: 6}
	})
	for _, x := range []impl.Store{fetchStore(), fullWith(fetchStore()), lateWith(fetchStore()), laid(fetchStore(), "pin/4", "what"), withRecords(t, fetchStore(), claiming(9))} {
		for _, now := range []int{0, 36, 37} {
			reads(t, "the first of two", x, r, now, x, one)
			reads(t, "the last one", x, one, now, x, both)
		}
		for _, now := range []int{0, 37, 38, lastNow} {
			ends(t, "without any", x, both, now, impl.OK)
			ends(t, "of an empty list", x, readerWith(both, func(r *impl.Reader) { r.Left = []impl.Entry{} }), now, impl.OK)
		}
	}
	ends(t, "without any, and without objects", impl.NewStore(), both, 0, impl.OK)
}

// Entries of the other tiers are read as buckets, by where these begin.
func TestP11FetchingWindows(t *testing.T) {
	x := fetchStore()
	nothing := fetchCase{s: span{9, 9}, e: impl.Entry{From: 8, To: 12, Key: keyed(0, 3, 2)}}
	for i, c := range append(fetchCases(), nothing) {
		r := impl.Reader{Phase: 3, Tier: c.e.Tier, From: c.s.from, To: c.s.to, Until: 3, Left: []impl.Entry{c.e}}
		reads(t, fmt.Sprint("window ", i), x, r, 0, x, readerWith(r, func(r *impl.Reader) { r.Left, r.Got = nil, c.got }))
	}
	wide := impl.Entry{Tier: 2, From: 0, To: 20, Key: keyed(2, 0, 5)}
	x = laid(x, wide.Key, "0:3,12,1,9,2,9")
	r := impl.Reader{Phase: 3, Tier: 2, To: 20, Until: 3, Left: []impl.Entry{wide}}
	reads(t, "a wide window", x, r, 0, x, readerWith(r, func(r *impl.Reader) {
		r.Left, r.Got = nil, impl.Agg{Count: 3, Sum: 12, Min: 1, Max: 9, First: 2, Last: 9}
	}))
}

// Till 3 ahead of Until data are read; whoever has nothing left is never late.
func TestP11LateReaders(t *testing.T) {
	x := fetchStore()
	for _, until := range []int{0, 1, 2, 3, 4, 30, 40, 5000, 100000, 101002, 101003, 101004, 101030, 200000} {
		for now := until - 6; now <= until+6; now++ {
			if now < 0 || now > lastNow {
				continue
			}
			r := readerWith(busyReader(impl.RdFetch), func(r *impl.Reader) { r.Until = until })
			_, v, _, _ := wantQuery(t, "late or not", x, r, now)
			if late := now > until-3; late != (v.Phase == 4) || late != (v.Code == impl.ErrLate) || late != (len(v.Left) == 0) || late != (v.Got.Count == 2) {
				t.Errorf("Until %d, at %d: %v", until, now, v)
			}
			ends(t, "nothing left", x, readerWith(r, func(r *impl.Reader) { r.Left = nil }), now, impl.OK)
			if now > until-3 {
				// That the data are gone, or cannot be read, or are too many, is not seen any more.
				for _, y := range []impl.Store{impl.NewStore(), laid(x, keyed(0, 3, 2), "what")} {
					ends(t, "late ahead of all else", y, r, now, impl.ErrLate)
				}
				ends(t, "late, and too many", x, readerWith(r, func(r *impl.Reader) { r.Got = counted(0, 1000, 3).Agg }), now, impl.ErrLate)
			}
		}
	}
	for _, now := range []int{38, 39, 40, 41, 47, 1000, lastNow} {
		ends(t, "late", x, busyReader(impl.RdFetch), now, impl.ErrLate)
	}
}

func TestP11DataThatAreGone(t *testing.T) {
	r := busyReader(impl.RdFetch)
	x := fetchStore()
	for _, now := range []int{0, 37} {
		ends(t, "gone", without(x, keyed(0, 3, 2)), r, now, impl.ErrNone)
		ends(t, "an empty store", impl.NewStore(), r, now, impl.ErrNone)
		ends(t, "gone, though another tier has one alike", withObjects(without(x, keyed(0, 3, 2)), map[string]string{keyed(1, 3, 2): "", keyed(0, 3, 3): "10=3"}), r, now, impl.ErrNone)
		// Only the first one is looked for.
		if _, v, _, _ := wantQuery(t, "the second one is gone", without(x, keyed(0, 4, 3)), r, now); v.Phase != 3 || len(v.Left) != 1 {
			t.Error("the second one is gone", v)
		}
	}
}

func TestP11DataThatAreDamaged(t *testing.T) {
	x := fetchStore()
	r := busyReader(impl.RdFetch)
	for _, data := range damagedRaw() {
		ends(t, "raw data", laid(x, keyed(0, 3, 2), data), r, 37, impl.ErrDamaged)
		y := laid(x, keyed(0, 4, 3), data)
		if _, v, _, _ := wantQuery(t, "raw data of the second one", y, r, 37); v.Phase != 3 || len(v.Left) != 1 {
			t.Error("raw data of the second one", v)
		}
	}
	for _, tier := range []int{1, 2} {
		key := keyed(tier, 10, 4)
		w := readerWith(r, func(r *impl.Reader) { r.Tier, r.Left = tier, []impl.Entry{{Tier: tier, From: 10, To: 15, Key: key}} })
		for _, data := range damagedWindows() {
			ends(t, "windows", laid(x, key, data), w, 37, impl.ErrDamaged)
		}
	}
}

// A reader has got 1000 at most; what would be more ends the query.
func TestP11MoreThanAReaderMayHave(t *testing.T) {
	key := keyed(1, 10, 4)
	for _, c := range amounts() {
		x := laid(mixedStore(), key, c.data())
		r := impl.Reader{Id: 2, Phase: 3, Tier: 1, From: 10, To: 15, Until: 40, Left: []impl.Entry{{Tier: 1, From: 10, To: 15, Key: key}}, Got: c.agg()}
		if c.want != impl.OK {
			ends(t, fmt.Sprint(c), x, r, 10, c.want)
			continue
		}
		reads(t, fmt.Sprint(c), x, r, 10, x, readerWith(r, func(r *impl.Reader) { r.Left, r.Got = nil, counted(0, 1000, 3).Agg }))
	}
}

// The same entry may be left many times, up to the last of 300.
func TestP11FetchingManyEntries(t *testing.T) {
	x := fetchStore()
	r := readerWith(busyReader(impl.RdFetch), func(r *impl.Reader) {
		r.Left = slices.Repeat(r.Left[:1], 300)
		r.Got = impl.Agg{}
	})
	for left := 299; left >= 0; left-- {
		_, v, _, _ := wantQuery(t, "many entries", x, r, 37)
		if v.Phase != 3 || len(v.Left) != left || v.Got.Count != 3*(300-left) {
			t.Fatalf("%d left: phase %d, %d entries, got %v", left, v.Phase, len(v.Left), v.Got)
		}
		r = v
	}
	ends(t, "none of many", x, r, 38, impl.OK)
}

func TestP11Unpinning(t *testing.T) {
	x, _ := queryStore(t)
	for _, r := range []impl.Reader{ended(asking(0, 2, 20, 40), impl.ErrFull), ended(asking(9, 0, 0, 0), impl.OK), busyReader(impl.RdUnpin), {Id: 3, Phase: 4}, ended(busyReader(impl.RdFetch), impl.ErrLate)} {
		pin := pinName(r.Id)
		for _, now := range []int{0, 40, 46, 47, lastNow} {
			for _, y := range []impl.Store{impl.NewStore(), mixedStore(), x, numberedStore(impl.MaxObjects - 1)} {
				for _, data := range []string{"40", "0", "200000", "", "what"} {
					there := laid(y, pin, data)
					for _, z := range []impl.Store{there, fullWith(there), lateWith(there)} {
						unpins(t, "a pin", z, r, now, without(z, pin))
					}
				}
				for _, z := range []impl.Store{y, fullWith(y), lateWith(y)} {
					unpins(t, "no pin", z, r, now, z)
				}
				others := withObjects(y, map[string]string{"pin/2": "7", "pin/5": "what", "pin/": "", "pin/44": "90", "pin": ""})
				if len(others.Objects) < impl.MaxObjects {
					unpins(t, "no pin beside others", others, r, now, others)
					there := laid(others, pin, "40")
					unpins(t, "a pin beside others", there, r, now, without(there, pin))
				}
			}
		}
	}
}
