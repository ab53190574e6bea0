package tests

import (
	"fmt"
	"slices"
	"testing"

	"loop.example/g00601/impl"
)

// rightStates are at the bounds of what a state may be.
func rightStates() []impl.State {
	widest := impl.State{Low: [3]int{0, 0, 0}, High: [3]int{100000, 0, 0}, Entries: []impl.Entry{{From: 0, To: 100000, Key: keyed(0, 1, 2)}}}
	return []impl.State{
		{}, {Entries: []impl.Entry{}, Tombs: []impl.Tomb{}}, busyState(), widest,
		{Seq: lastSeq, Fence: 999999},
		{Low: [3]int{100000, 0, 7}, High: [3]int{100000, 0, 7}},
		{Low: [3]int{0, 100000, 100000}, High: [3]int{0, 100000, 100000}},
		// Windows need not be whole, nor keys tell where they begin, nor a tier end where the one below does.
		{Low: [3]int{0, 3, 0}, High: [3]int{0, 4, 0}, Entries: []impl.Entry{{Tier: 1, From: 3, To: 4, Key: keyed(1, 999999, 0)}}},
		{Low: [3]int{0, 0, 99999}, High: [3]int{0, 0, 100000}, Entries: []impl.Entry{{Tier: 2, From: 99999, To: 100000, Key: keyed(2, 0, 999999)}}},
		// The order of what rests is free, and so is that of tiers.
		{Seq: 9, Tombs: []impl.Tomb{{Seq: 9, Key: keyed(2, 0, 1)}, {Seq: 1, Key: keyed(0, 9, 1)}, {Seq: 9, Key: keyed(0, 2, 1)}}},
		changed(busyState(), func(s *impl.State) {
			slices.SortStableFunc(s.Entries, func(a, b impl.Entry) int { return a.Tier - b.Tier })
		}),
		changed(busyState(), func(s *impl.State) {
			slices.SortStableFunc(s.Entries, func(a, b impl.Entry) int { return b.Tier - a.Tier })
		}),
		manyState(impl.MaxList, 0), manyState(0, impl.MaxList), manyState(4000, 96), manyState(1, impl.MaxList-1),
	}
}

// spoiled is a state that is not right, and why.
type spoiled struct {
	why   string
	state impl.State
}

// wrongBounds are states with a number or a key that is one beyond its bound, or far off.
func wrongBounds() []spoiled {
	var list []spoiled
	add := func(why string, change func(s *impl.State)) {
		list = append(list, spoiled{why, changed(busyState(), change)})
	}
	for _, n := range []int{-1, 1000000, -1 << 63, 1<<63 - 1, 1<<32 + 40} {
		add(fmt.Sprint("Seq ", n), func(s *impl.State) { s.Seq = n })
		add(fmt.Sprint("Fence ", n), func(s *impl.State) { s.Fence = n })
		// Without anything else that Seq could be too low for.
		list = append(list, spoiled{fmt.Sprint("Seq alone ", n), impl.State{Seq: n}}, spoiled{fmt.Sprint("Fence alone ", n), impl.State{Fence: n}})
	}
	for _, seq := range []int{0, -1, 41, -1 << 63, 1<<63 - 1} {
		for at := range 2 {
			add(fmt.Sprint("Seq of what rests: ", seq), func(s *impl.State) { s.Tombs[at].Seq = seq })
		}
	}
	add("Seq below that of what rests", func(s *impl.State) { s.Seq = 32 })
	for at := range 6 {
		for _, tier := range []int{-1, 3, 1 << 32, -1 << 63, 1<<63 - 1} {
			add(fmt.Sprint("tier ", tier), func(s *impl.State) { s.Entries[at].Tier = tier })
		}
		for _, key := range []string{"", "lease", "man/000001", "raw/000001", "raw/1-2", "raw/000001-000002 ", text(impl.MaxText + 1)} {
			add(fmt.Sprintf("key %.20q", key), func(s *impl.State) { s.Entries[at].Key = key })
		}
		for tier := range 3 {
			if tier != busyState().Entries[at].Tier {
				add("a key of another tier", func(s *impl.State) { s.Entries[at].Key = keyed(tier, 500, 5) })
			}
		}
	}
	for at := range 2 {
		for _, key := range []string{"", "lease", "raw/000001", "t3/000001-000002", text(impl.MaxText + 1)} {
			add(fmt.Sprintf("what rests: key %.20q", key), func(s *impl.State) { s.Tombs[at].Key = key })
		}
	}
	return list
}

// wrongRanges are states whose entries are not side by side from Low to High.
func wrongRanges() []spoiled {
	var list []spoiled
	add := func(why string, s impl.State, change func(s *impl.State)) {
		list = append(list, spoiled{why, changed(s, change)})
	}
	for at := range 6 {
		add("an empty range", busyState(), func(s *impl.State) { s.Entries[at].To = s.Entries[at].From })
		for _, d := range []int{-1, 1} {
			add("From off", busyState(), func(s *impl.State) { s.Entries[at].From += d })
			add("To off", busyState(), func(s *impl.State) { s.Entries[at].To += d })
		}
		add("an entry less", busyState(), func(s *impl.State) { s.Entries = append(s.Entries[:at], s.Entries[at+1:]...) })
		for _, n := range []int{-1 << 63, 1<<63 - 1} {
			add("From far off", busyState(), func(s *impl.State) { s.Entries[at].From = n })
			add("To far off", busyState(), func(s *impl.State) { s.Entries[at].To = n })
		}
	}
	for tier := range 3 {
		for _, d := range []int{-1, 1, 100, 1 << 62} {
			add("Low off", busyState(), func(s *impl.State) { s.Low[tier] += d })
			add("High off", busyState(), func(s *impl.State) { s.High[tier] += d })
			add("without entries Low off", impl.State{}, func(s *impl.State) { s.Low[tier] += d })
			add("without entries High off", impl.State{}, func(s *impl.State) { s.High[tier] += d })
		}
		for _, n := range []int{-1, 100001, -1 << 63, 1<<63 - 1} {
			add("both out of bounds", impl.State{}, func(s *impl.State) { s.Low[tier], s.High[tier] = n, n })
		}
		add("an empty entry alone", impl.State{}, func(s *impl.State) { s.Entries = []impl.Entry{{Tier: tier, Key: keyed(tier, 1, 2)}} })
		add("before all times", impl.State{}, func(s *impl.State) {
			s.Low[tier], s.Entries = -1, []impl.Entry{{Tier: tier, From: -1, Key: keyed(tier, 1, 2)}}
		})
		add("behind all times", impl.State{}, func(s *impl.State) {
			s.Low[tier], s.High[tier] = 99999, 100001
			s.Entries = []impl.Entry{{Tier: tier, From: 99999, To: 100001, Key: keyed(tier, 1, 2)}}
		})
	}
	add("out of order", busyState(), func(s *impl.State) { s.Entries[1], s.Entries[3] = s.Entries[3], s.Entries[1] })
	add("out of order", busyState(), func(s *impl.State) { s.Entries[2], s.Entries[4] = s.Entries[4], s.Entries[2] })
	add("a gap", busyState(), func(s *impl.State) { s.Entries[3].From = 50 })
	add("one over the other", busyState(), func(s *impl.State) { s.Entries[3].From = 45 })
	add("an entry twice", busyState(), func(s *impl.State) { s.Entries = append(s.Entries, s.Entries[5]) })
	add("backwards", impl.State{}, func(s *impl.State) {
		s.Low[0], s.High[0], s.Entries = 5, 3, []impl.Entry{{From: 5, To: 3, Key: keyed(0, 1, 2)}}
	})
	return list
}

// wrongKeys are states in which a key is there twice, or too many are.
func wrongKeys() []spoiled {
	var list []spoiled
	s := busyState()
	for one := range 6 {
		for other := range one {
			if s.Entries[one].Tier == s.Entries[other].Tier {
				list = append(list, spoiled{"two live ones", changed(s, func(s *impl.State) { s.Entries[one].Key = s.Entries[other].Key })})
			}
		}
		list = append(list, spoiled{"live and at rest", changed(s, func(s *impl.State) { s.Tombs[one%2].Key = s.Entries[one].Key })})
	}
	return append(list,
		spoiled{"two at rest", changed(s, func(s *impl.State) { s.Tombs[1].Key = s.Tombs[0].Key })},
		spoiled{"one at rest twice", changed(s, func(s *impl.State) { s.Tombs = append(s.Tombs, s.Tombs[0]) })},
		spoiled{"too many entries", manyState(impl.MaxList+1, 0)},
		spoiled{"too many at rest", manyState(0, impl.MaxList+1)},
		spoiled{"too many together", manyState(4000, 97)},
		spoiled{"too many together", manyState(1, impl.MaxList)},
		spoiled{"far too many", manyState(impl.MaxList, impl.MaxList)},
	)
}

func wrongStates() []spoiled { return append(append(wrongBounds(), wrongRanges()...), wrongKeys()...) }

func TestP7StatesThatAreRight(t *testing.T) {
	for i, s := range rightStates() {
		if !impl.StateOK(s) {
			t.Errorf("state %d is right: %.200s", i, fmt.Sprint(s))
		}
	}
}

func TestP7StatesThatAreNotRight(t *testing.T) {
	records := []impl.Record{adding(63, 70, keyed(0, 41, 2)), claiming(6), publishing(5, 1, 45, 50), retiring(5, busyState().Entries[0]), purging(keyed(0, 11, 2)), {}, {Kind: 6}}
	for _, w := range wrongStates() {
		if impl.StateOK(w.state) {
			t.Errorf("%s: %.300s is not right", w.why, fmt.Sprint(w.state))
		}
		for _, r := range records {
			refusedRecord(t, w.why, w.state, r, impl.ErrBad, impl.State{})
		}
	}
}

func TestP7RecordsThatAreNotRightAreNotApplied(t *testing.T) {
	states := []impl.State{{}, busyState(), {Seq: lastSeq}, manyState(4000, 96), manyState(impl.MaxList+1, 0)}
	for i, r := range wrongRecords() {
		for k, s := range states {
			// Those of many entries take long; some of the records do for them.
			if k < 3 || i%10 == 0 {
				refusedRecord(t, "no record", s, r, impl.ErrBad, impl.State{})
			}
		}
	}
}

func TestP7TheLastRecord(t *testing.T) {
	s := changed(busyState(), func(s *impl.State) { s.Seq = lastSeq - 1 })
	for _, r := range []impl.Record{adding(63, 70, keyed(0, lastSeq, 2)), claiming(6), publishing(5, 1, 45, 50), retiring(5, s.Entries[0]), purging(s.Tombs[0].Key)} {
		if x := taken(t, "the last record", s, r); x.Seq != lastSeq {
			t.Error("Seq", x.Seq)
		}
	}
	s.Seq = lastSeq
	for _, r := range rightRecords() {
		refusedRecord(t, "behind the last record", s, r, impl.ErrFull, s)
	}
	refusedRecord(t, "behind the last record", s, adding(63, 70, keyed(0, lastSeq, 2)), impl.ErrFull, s)
	refusedRecord(t, "behind the last record", impl.State{Seq: lastSeq}, claiming(1), impl.ErrFull, impl.State{Seq: lastSeq})
}

func TestP7StatesWithoutRoom(t *testing.T) {
	for _, entries := range []int{impl.MaxList, 4000, 1, 0} {
		s := manyState(entries, impl.MaxList-entries)
		refusedRecord(t, "an entry more", s, adding(entries, entries+1, keyed(0, 10001, 2)), impl.ErrFull, s)
		for _, r := range rightRecords() {
			refusedRecord(t, "a full state", s, r, impl.ErrFull, s)
		}
		if entries > 0 {
			almost := manyState(entries-1, impl.MaxList-entries)
			x := taken(t, "the last room", almost, adding(entries-1, entries, keyed(0, 10001, 2)))
			if len(x.Entries)+len(x.Tombs) != impl.MaxList {
				t.Error("the last room", len(x.Entries), len(x.Tombs))
			}
			left(t, "room is left", almost, adding(entries, entries+1, keyed(0, 10001, 2)))
			taken(t, "room is left", almost, claiming(1))
		}
		if entries > 0 && entries < impl.MaxList {
			taken(t, "room is left", manyState(entries-1, impl.MaxList-entries), purging(keyed(0, 5000, 3)))
		}
	}
}

func TestP7SameStates(t *testing.T) {
	base := busyState()
	var list []impl.State
	for _, change := range []func(s *impl.State){
		func(s *impl.State) {},
		func(s *impl.State) { s.Seq++ },
		func(s *impl.State) { s.Fence++ },
		func(s *impl.State) { s.Low[0]++ },
		func(s *impl.State) { s.Low[1]-- },
		func(s *impl.State) { s.Low[2] += 1 << 32 },
		func(s *impl.State) { s.High[0]++ },
		func(s *impl.State) { s.High[1]-- },
		func(s *impl.State) { s.High[2] += 1 << 32 },
		func(s *impl.State) { s.Entries[0].Tier = 1 },
		func(s *impl.State) { s.Entries[5].From-- },
		func(s *impl.State) { s.Entries[3].To++ },
		func(s *impl.State) { s.Entries[5].Key = keyed(0, 36, 3) },
		func(s *impl.State) { s.Entries = s.Entries[:5] },
		func(s *impl.State) { s.Entries = append(s.Entries, s.Entries[0]) },
		func(s *impl.State) { s.Entries[0], s.Entries[1] = s.Entries[1], s.Entries[0] },
		func(s *impl.State) { s.Entries = nil },
		func(s *impl.State) { s.Tombs[0].Seq++ },
		func(s *impl.State) { s.Tombs[1].Key += " " },
		func(s *impl.State) { s.Tombs = s.Tombs[:1] },
		func(s *impl.State) { s.Tombs[0], s.Tombs[1] = s.Tombs[1], s.Tombs[0] },
		func(s *impl.State) { s.Tombs = nil },
	} {
		list = append(list, changed(base, change))
	}
	list = append(list, impl.State{}, impl.State{Seq: -1}, impl.State{Seq: 1}, manyState(impl.MaxList+1, 0), manyState(impl.MaxList, 0))
	for i, a := range list {
		for k, b := range list {
			if got := impl.SameState(a, copiedState(b)); got != (i == k) {
				t.Errorf("SameState of %d and %d = %v", i, k, got)
			}
		}
	}
	if !impl.SameState(impl.State{}, impl.State{Entries: []impl.Entry{}, Tombs: []impl.Tomb{}}) {
		t.Error("nil and an empty list are alike")
	}
}

func TestP7Constants(t *testing.T) {
	if impl.ReAdd != 1 || impl.ReClaim != 2 || impl.RePublish != 3 || impl.ReRetire != 4 || impl.RePurge != 5 {
		t.Error("constants", impl.ReAdd, impl.ReClaim, impl.RePublish, impl.ReRetire, impl.RePurge)
	}
}
