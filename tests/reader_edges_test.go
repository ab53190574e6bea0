package tests

import (
	"fmt"
	"slices"
	"testing"

	"loop.example/g00601/impl"
)

// readerCase is a reader, right or not, and what was done to it.
type readerCase struct {
	why string
	r   impl.Reader
}

// leftOf is an entry of a tier that a reader may have left.
func leftOf(tier int) impl.Entry {
	return []impl.Entry{rawEntry, windowEntry, wideEntry}[tier]
}

// baseReaders are right, one of each tier in each phase.
func baseReaders() []impl.Reader {
	var list []impl.Reader
	for phase := range 5 {
		list = append(list, busyReader(phase))
		for tier := 1; tier <= 2; tier++ {
			list = append(list, readerWith(busyReader(phase), func(r *impl.Reader) {
				r.Tier, r.From, r.To, r.Left = tier, 0, 20, []impl.Entry{leftOf(tier), leftOf(tier)}
			}))
		}
	}
	return append(list, impl.Reader{}, asking(9, 2, 20, 100000), asking(0, 0, 0, 0))
}

// readerCases are readers around each bound of their fields, in each phase and each tier.
func readerCases() []readerCase {
	const least, most = -1 << 63, 1<<63 - 1
	var list []readerCase
	for i, base := range baseReaders() {
		add := func(why string, change func(r *impl.Reader)) {
			list = append(list, readerCase{fmt.Sprintf("base %d, %s", i, why), readerWith(base, change)})
		}
		add("as it is", func(*impl.Reader) {})
		for _, n := range []int{-1, 0, 1, 2, 3, 4, 5, 8, 9, 10, 11, 18, 19, 20, 21, least, most, 1 << 32, 1<<32 + 2} {
			add(fmt.Sprint("Id ", n), func(r *impl.Reader) { r.Id = n })
			add(fmt.Sprint("Phase ", n), func(r *impl.Reader) { r.Phase = n })
			add(fmt.Sprint("Tier ", n), func(r *impl.Reader) { r.Tier = n })
			add(fmt.Sprint("Tier without entries ", n), func(r *impl.Reader) { r.Tier, r.Left = n, nil })
			add(fmt.Sprint("Code ", n), func(r *impl.Reader) { r.Code = n })
		}
		for _, until := range []int{-1, 0, 1, 100000, 199999, 200000, 200001, 202000, least, most, 1 << 32, 1<<32 + 7} {
			add(fmt.Sprint("Until ", until), func(r *impl.Reader) { r.Until = until })
		}
		for _, s := range append(rightSpans(), wrongSpans()...) {
			add(fmt.Sprint("range ", s), func(r *impl.Reader) { r.From, r.To = s.from, s.to })
		}
		for _, n := range []int{0, 1, 299, 300, 301, 302, 4096, 4097} {
			for tier := range 3 {
				add(fmt.Sprint(n, " of tier ", tier), func(r *impl.Reader) { r.Left = slices.Repeat([]impl.Entry{leftOf(tier)}, n) })
			}
		}
		for k, e := range append(wrongEntries(), rawEntry, windowEntry, wideEntry) {
			own := leftOf(base.Tier)
			add(fmt.Sprint("first entry ", k), func(r *impl.Reader) { r.Left = []impl.Entry{e, own} })
			add(fmt.Sprint("last entry ", k), func(r *impl.Reader) { r.Left = append(slices.Repeat([]impl.Entry{own}, 299), e) })
			add(fmt.Sprint("its own tier's entry ", k), func(r *impl.Reader) { r.Left = []impl.Entry{{Tier: r.Tier, From: e.From, To: e.To, Key: e.Key}} })
		}
		for _, count := range []int{1, 999, 1000, 1001, 1002, 100000, 100001, -1, least, most} {
			add(fmt.Sprint("got ", count), func(r *impl.Reader) { r.Got = impl.Agg{Count: count} })
		}
		for k, a := range append(rightAggs(), wrongAggs()...) {
			add(fmt.Sprint("aggregate ", k), func(r *impl.Reader) { r.Got = a })
		}
	}
	return list
}

func TestP11ReadersThatAreRight(t *testing.T) {
	right, wrong := 0, 0
	for _, c := range readerCases() {
		want := plainReader(c.r)
		if got := impl.ReaderOK(c.r); got != want {
			t.Errorf("%s: ReaderOK = %v, want %v; %.300s", c.why, got, want, fmt.Sprint(c.r))
		}
		if want {
			right++
		} else {
			wrong++
		}
	}
	if right < 1000 || wrong < 1000 {
		t.Errorf("%d are right, %d are not", right, wrong)
	}
}

// What the bounds are, told one by one.
func TestP11BoundsOfReaders(t *testing.T) {
	left := func(n, tier int) func(r *impl.Reader) {
		return func(r *impl.Reader) { r.Left = slices.Repeat([]impl.Entry{leftOf(tier)}, n) }
	}
	for _, c := range []struct {
		why    string
		change func(r *impl.Reader)
		want   bool
	}{
		{"as it is", func(r *impl.Reader) {}, true},
		{"Id 0", func(r *impl.Reader) { r.Id = 0 }, true}, {"Id 9", func(r *impl.Reader) { r.Id = 9 }, true},
		{"Id -1", func(r *impl.Reader) { r.Id = -1 }, false}, {"Id 10", func(r *impl.Reader) { r.Id = 10 }, false},
		{"Phase -1", func(r *impl.Reader) { r.Phase = -1 }, false}, {"Phase 5", func(r *impl.Reader) { r.Phase = 5 }, false},
		{"Tier -1", func(r *impl.Reader) { r.Tier, r.Left = -1, nil }, false}, {"Tier 3", func(r *impl.Reader) { r.Tier, r.Left = 3, nil }, false},
		{"Tier 2", func(r *impl.Reader) { r.Tier, r.Left = 2, nil }, true}, {"Tier 1 with entries of tier 0", func(r *impl.Reader) { r.Tier = 1 }, false},
		{"all times", func(r *impl.Reader) { r.From, r.To = 0, 100000 }, true}, {"an empty range", func(r *impl.Reader) { r.From, r.To = 7, 7 }, true},
		{"the last empty range", func(r *impl.Reader) { r.From, r.To = 100000, 100000 }, true},
		{"From -1", func(r *impl.Reader) { r.From = -1 }, false}, {"To 100001", func(r *impl.Reader) { r.To = 100001 }, false},
		{"To below From", func(r *impl.Reader) { r.From, r.To = 8, 7 }, false},
		{"no multiples", func(r *impl.Reader) { r.Tier, r.From, r.To, r.Left = 2, 1, 7, nil }, true},
		{"Until 0", func(r *impl.Reader) { r.Until = 0 }, true}, {"Until 200000", func(r *impl.Reader) { r.Until = 200000 }, true},
		{"Until -1", func(r *impl.Reader) { r.Until = -1 }, false}, {"Until 200001", func(r *impl.Reader) { r.Until = 200001 }, false},
		{"Code 0", func(r *impl.Reader) { r.Code = 0 }, true}, {"Code 19", func(r *impl.Reader) { r.Code = 19 }, true},
		{"Code -1", func(r *impl.Reader) { r.Code = -1 }, false}, {"Code 20", func(r *impl.Reader) { r.Code = 20 }, false},
		{"got nothing", func(r *impl.Reader) { r.Got = impl.Agg{} }, true},
		{"got 1000", func(r *impl.Reader) { r.Got = impl.Agg{Count: 1000} }, true}, {"got 1001", func(r *impl.Reader) { r.Got = impl.Agg{Count: 1001} }, false},
		{"got what is no aggregate", func(r *impl.Reader) { r.Got = impl.Agg{Sum: 1} }, false},
		{"none left", left(0, 0), true}, {"one left", left(1, 0), true}, {"300 left", left(300, 0), true}, {"301 left", left(301, 0), false},
		{"one of tier 1", left(1, 1), false}, {"one of tier 2", left(1, 2), false},
		{"one of another tier behind", func(r *impl.Reader) { r.Left = append(r.Left, windowEntry) }, false},
		{"one that is none", func(r *impl.Reader) { r.Left = append(r.Left, impl.Entry{}) }, false},
		{"one that is empty", func(r *impl.Reader) { r.Left = []impl.Entry{{From: 5, To: 5, Key: keyed(0, 1, 2)}} }, false},
		{"one that is not in its range", func(r *impl.Reader) { r.Left = []impl.Entry{{From: 50, To: 55, Key: keyed(0, 1, 2)}} }, true},
	} {
		for phase := range 5 {
			r := readerWith(busyReader(phase), c.change)
			if got := impl.ReaderOK(r); got != c.want || plainReader(r) != c.want {
				t.Errorf("%s, phase %d: ReaderOK = %v, the plain one %v, want %v; %.200s", c.why, phase, got, plainReader(r), c.want, fmt.Sprint(r))
			}
		}
	}
}

func TestP11AskingReaders(t *testing.T) {
	idle, wrong := busyReader(impl.RdIdle), impl.Reader{Id: 10}
	for tier := range 3 {
		for _, s := range rightSpans() {
			for _, r := range []impl.Reader{{}, {Id: 9}, idle} {
				if v, code := wantAsked(t, "idle", r, tier, s); code != impl.OK || !alikeReaders(v, impl.Reader{Id: r.Id, Phase: 1, Tier: tier, From: s.from, To: s.to}) {
					t.Errorf("idle: code %d, %v", code, v)
				}
			}
			for phase := 1; phase < 5; phase++ {
				if v, code := wantAsked(t, "busy", busyReader(phase), tier, s); code != impl.ErrThere || !alikeReaders(v, busyReader(phase)) {
					t.Errorf("busy: code %d, %v", code, v)
				}
			}
			if _, code := wantAsked(t, "not right", wrong, tier, s); code != impl.ErrBad {
				t.Error("not right", code)
			}
		}
	}
	for phase := range 5 {
		for _, s := range append(wrongSpans(), rightSpans()...) {
			for _, tier := range wrongTiers() {
				if v, code := wantAsked(t, "no tier", busyReader(phase), tier, s); code != impl.ErrRange || !alikeReaders(v, impl.Reader{}) {
					t.Errorf("no tier %d: code %d, %v", tier, code, v)
				}
				if _, code := wantAsked(t, "no tier, not right", wrong, tier, s); code != impl.ErrBad {
					t.Error("no tier, not right", code)
				}
			}
		}
		for _, s := range wrongSpans() {
			for tier := range 3 {
				if v, code := wantAsked(t, "no range", busyReader(phase), tier, s); code != impl.ErrRange || !alikeReaders(v, impl.Reader{}) {
					t.Errorf("no range %v: code %d, %v", s, code, v)
				}
			}
		}
	}
}

// Each reader that there is, right or not, is asked.
func TestP11AskingAllReaders(t *testing.T) {
	spans := append(rightSpans(), wrongSpans()...)
	for i, c := range readerCases() {
		for tier := -1; tier <= 3; tier++ {
			wantAsked(t, c.why, c.r, tier, spans[(3*i+tier+1)%len(spans)])
		}
		wantAsked(t, c.why, c.r, i%3, span{0, 20})
	}
}

func TestP11StepsOfWhatIsNotRight(t *testing.T) {
	for _, x := range wrongLogStores() {
		for _, r := range append(baseReaders(), impl.Reader{Id: 10}, impl.Reader{Left: []impl.Entry{{}}}) {
			for _, now := range []int{0, 10, lastNow, -1, lastNow + 1} {
				notRead(t, "a wrong store", x, r, now, impl.ErrBad)
			}
		}
	}
	several, _ := queryStore(t)
	stores := []impl.Store{several, impl.NewStore(), lateWith(fullWith(several))}
	nows := append(wrongNows(), 0, 10, lastNow)
	for i, c := range readerCases() {
		if !plainReader(c.r) {
			notRead(t, c.why, stores[i%len(stores)], c.r, nows[i%len(nows)], impl.ErrBad)
		}
	}
	for _, x := range append(rightStores(), stores...) {
		for _, r := range baseReaders() {
			for _, now := range wrongNows() {
				notRead(t, "a wrong now", x, r, now, impl.ErrRange)
			}
		}
	}
}

// All right readers that there are, over stores of many kinds.
func TestP11StepsOfAllReaders(t *testing.T) {
	several, _ := queryStore(t)
	pinned := laid(several, "pin/4", "what")
	stores := append(rightStores(), several, pinned, fullWith(several), fullWith(pinned), lateWith(pinned), fetchStore())
	nows := []int{0, 10, 37, 38, 100000, lastNow}
	for i, c := range readerCases() {
		if !plainReader(c.r) {
			continue
		}
		for k := range 3 {
			x, now := stores[(i+5*k)%len(stores)], nows[(i/7+k)%len(nows)]
			y, v, _, _ := wantQuery(t, c.why, x, c.r, now)
			wantQuery(t, c.why+", once more", y, v, now)
		}
	}
}

func TestP11SameReaders(t *testing.T) {
	changes := []func(r *impl.Reader){
		func(r *impl.Reader) { r.Id++ }, func(r *impl.Reader) { r.Phase++ }, func(r *impl.Reader) { r.Tier++ }, func(r *impl.Reader) { r.From-- }, func(r *impl.Reader) { r.To++ },
		func(r *impl.Reader) { r.Until++ }, func(r *impl.Reader) { r.Code++ }, func(r *impl.Reader) { r.Got.Count++ }, func(r *impl.Reader) { r.Got.Sum++ }, func(r *impl.Reader) { r.Got.Min-- },
		func(r *impl.Reader) { r.Got.Max++ }, func(r *impl.Reader) { r.Got.First++ }, func(r *impl.Reader) { r.Got.Last-- },
		func(r *impl.Reader) { r.Left = append(r.Left, impl.Entry{}) }, func(r *impl.Reader) { r.Left = append([]impl.Entry{{To: 9}}, r.Left...) },
		func(r *impl.Reader) { r.Id += 1 << 32 }, func(r *impl.Reader) { r.Until += 1 << 32 },
	}
	ofLeft := []func(r *impl.Reader){
		func(r *impl.Reader) { r.Left = nil }, func(r *impl.Reader) { r.Left = r.Left[1:] }, func(r *impl.Reader) { r.Left = r.Left[:len(r.Left)-1] },
		func(r *impl.Reader) { r.Left[0].Tier++ }, func(r *impl.Reader) { r.Left[0].From-- }, func(r *impl.Reader) { r.Left[len(r.Left)-1].To++ }, func(r *impl.Reader) { r.Left[len(r.Left)-1].Key += "0" },
		func(r *impl.Reader) { r.Left = append(r.Left, r.Left[len(r.Left)-1]) },
	}
	crooked := impl.Reader{Id: -7, Phase: 99, Tier: -1, From: 9, To: 3, Until: -5, Code: 77, Left: []impl.Entry{{}, {Tier: 9}}, Got: impl.Agg{Sum: 1 << 40}}
	for _, base := range append(baseReaders(), crooked, impl.Reader{Left: slices.Repeat([]impl.Entry{rawEntry}, 5000)}) {
		if !impl.SameReader(base, copiedReader(base)) {
			t.Errorf("%v is not the same as itself", base)
		}
		all := changes
		if len(base.Left) > 0 {
			all = append(slices.Clone(changes), ofLeft...)
		}
		for i, change := range all {
			h := readerWith(base, change)
			if impl.SameReader(base, h) || impl.SameReader(h, base) {
				t.Errorf("%.200s is the same behind change %d", fmt.Sprint(base), i)
			}
		}
	}
	none, empty := impl.Reader{Id: 1}, impl.Reader{Id: 1, Left: []impl.Entry{}}
	if !impl.SameReader(none, empty) || !impl.SameReader(empty, none) || !impl.SameReader(impl.Reader{}, impl.Reader{}) {
		t.Error("nil is not the same as an empty list")
	}
	turned := busyReader(impl.RdFetch)
	if impl.SameReader(turned, readerWith(turned, func(r *impl.Reader) { r.Left[0], r.Left[1] = r.Left[1], r.Left[0] })) {
		t.Error("the same in another order")
	}
}
