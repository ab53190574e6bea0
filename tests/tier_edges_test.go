package tests

import (
	"math"
	"slices"
	"testing"

	"loop.example/g00601/impl"
)

var (
	widths = []int{1, 5, 20}
	keeps  = []int{40, 100, 400}
)

func wrongTiers() []int {
	return []int{-1, 3, -2, 4, 5, 20, math.MinInt, math.MaxInt, 1 << 32, 1<<32 + 1, -1 << 32}
}

func wantNumber(t *testing.T, what string, arg, got, code, want, wantCode int) {
	t.Helper()
	if got != want || code != wantCode {
		t.Errorf("%s %d = %d, code %d, want %d, code %d", what, arg, got, code, want, wantCode)
	}
}

func TestP5TiersAtTheirBounds(t *testing.T) {
	for tier := range widths {
		width, code := impl.WidthOf(tier)
		wantNumber(t, "WidthOf", tier, width, code, widths[tier], impl.OK)
		keep, code := impl.KeepOf(tier)
		wantNumber(t, "KeepOf", tier, keep, code, keeps[tier], impl.OK)
	}
	for _, tier := range wrongTiers() {
		width, code := impl.WidthOf(tier)
		wantNumber(t, "WidthOf", tier, width, code, 0, impl.ErrRange)
		keep, code := impl.KeepOf(tier)
		wantNumber(t, "KeepOf", tier, keep, code, 0, impl.ErrRange)
		for _, at := range []int{0, 7, impl.MaxTime, -1, impl.MaxTime + 1} {
			from, code := impl.AlignDown(at, tier)
			wantNumber(t, "AlignDown of tier", tier, from, code, 0, impl.ErrRange)
		}
	}
}

func TestP5TimesAroundWindowsEnds(t *testing.T) {
	for _, e := range []struct{ at, tier, want int }{
		{0, 0, 0}, {0, 1, 0}, {0, 2, 0}, {1, 0, 1}, {1, 1, 0}, {1, 2, 0},
		{4, 1, 0}, {5, 1, 5}, {6, 1, 5}, {9, 1, 5}, {10, 1, 10},
		{19, 2, 0}, {20, 2, 20}, {21, 2, 20}, {39, 2, 20}, {40, 2, 40}, {19, 1, 15}, {20, 1, 20}, {39, 0, 39},
		{99999, 0, 99999}, {99999, 1, 99995}, {99999, 2, 99980}, {99995, 1, 99995}, {99994, 1, 99990},
		{99980, 2, 99980}, {99979, 2, 99960}, {100000, 0, 100000}, {100000, 1, 100000}, {100000, 2, 100000},
	} {
		from, code := impl.AlignDown(e.at, e.tier)
		wantNumber(t, "AlignDown", e.at, from, code, e.want, impl.OK)
	}
	for tier := range widths {
		for _, at := range []int{-1, -5, -20, impl.MaxTime + 1, impl.MaxTime + 20, math.MinInt, math.MaxInt} {
			from, code := impl.AlignDown(at, tier)
			wantNumber(t, "AlignDown", at, from, code, 0, impl.ErrRange)
		}
	}
}

func TestP5EachTimeHasOneWindow(t *testing.T) {
	for tier, width := range widths {
		begin := 0
		for at := range impl.MaxTime + 1 {
			if at == begin+width {
				begin = at
			}
			if from, code := impl.AlignDown(at, tier); from != begin || code != impl.OK {
				t.Fatalf("AlignDown %d of tier %d = %d, code %d, want %d", at, tier, from, code, begin)
			}
		}
	}
}

func TestP5EndsOfWindows(t *testing.T) {
	// A sample at a window's beginning is in it, one at its end in the next one.
	list := samplesOf(4, 1, 1, 2, 3, 4, 5, 6, 7) // 4 to 10
	wantDownsample(t, list, span{5, 10}, []impl.Bucket{{From: 5, Agg: foldOf(list[1:6])}}, impl.OK)
	wantDownsample(t, list, span{4, 5}, []impl.Bucket{{From: 4, Agg: foldOf(list[:1])}}, impl.OK)
	wantDownsample(t, list, span{10, 15}, []impl.Bucket{{From: 10, Agg: foldOf(list[6:])}}, impl.OK)
	last := samplesOf(impl.MaxTime-2, 1, 8, 9)
	wantDownsample(t, last, span{impl.MaxTime - 1, impl.MaxTime}, []impl.Bucket{counted(impl.MaxTime-1, 1, 9)}, impl.OK)
	wantDownsample(t, last, span{0, impl.MaxTime - 1}, []impl.Bucket{counted(0, 1, 8)}, impl.OK)
	wantDownsample(t, last, span{impl.MaxTime, impl.MaxTime}, nil, impl.OK)
	// A bucket counts where it begins, however far its window goes.
	buckets := []impl.Bucket{counted(0, 3, 1), counted(4, 2, 2), counted(5, 4, 3), counted(9, 1, 4), counted(10, 5, 5), counted(impl.MaxTime-1, 1, 6)}
	both, _ := impl.MergeAgg(buckets[2].Agg, buckets[3].Agg)
	wantRolledUp(t, buckets, span{5, 10}, []impl.Bucket{{From: 5, Agg: both}}, impl.OK)
	wantRolledUp(t, buckets, span{5, 9}, []impl.Bucket{counted(5, 4, 3)}, impl.OK)
	wantRolledUp(t, buckets, span{1, 5}, []impl.Bucket{counted(1, 2, 2)}, impl.OK)
	wantRolledUp(t, buckets, span{1, 4}, nil, impl.OK)
	wantRolledUp(t, buckets, span{0, 1}, []impl.Bucket{counted(0, 3, 1)}, impl.OK)
	wantRolledUp(t, buckets, span{11, impl.MaxTime}, []impl.Bucket{counted(11, 1, 6)}, impl.OK)
	wantRolledUp(t, buckets, span{11, impl.MaxTime - 1}, nil, impl.OK)
	wantRolledUp(t, buckets, span{impl.MaxTime, impl.MaxTime}, nil, impl.OK)
}

func TestP5RangesThatAreNotRight(t *testing.T) {
	for _, s := range wrongSpans() {
		for _, list := range append(tierLists(), steady(impl.MaxList, 1)) {
			wantDownsample(t, list, s, nil, impl.ErrRange)
		}
		for _, list := range rightBucketLists() {
			wantRolledUp(t, list, s, nil, impl.ErrRange)
		}
	}
}

func TestP5ListsThatAreNotRight(t *testing.T) {
	// ErrBad comes ahead of ErrRange, and is of the whole list, whatever of it is in the range.
	for _, s := range append(wrongSpans(), span{0, impl.MaxTime}, span{0, 0}, span{1, 3}, span{50, 60}) {
		for _, bad := range wrongLists() {
			wantDownsample(t, bad, s, nil, impl.ErrBad)
		}
		wantDownsample(t, append(steady(impl.MaxList-1, 1), impl.Sample{T: impl.MaxTime}), s, nil, impl.ErrBad)
		for _, bad := range wrongBucketLists() {
			wantRolledUp(t, bad, s, nil, impl.ErrBad)
		}
	}
}

func TestP5TooManyOfThem(t *testing.T) {
	for _, s := range append(wrongSpans(), span{0, impl.MaxTime}, span{0, 0}, span{1, 3}) {
		for _, n := range []int{impl.MaxBatch + 1, impl.MaxBatch + 2, impl.MaxList - 1, impl.MaxList} {
			wantRolledUp(t, manyBuckets(n), s, nil, impl.ErrBad)
		}
		for _, n := range []int{impl.MaxList + 1, 2 * impl.MaxList} {
			wantRolledUp(t, manyBuckets(n), s, nil, impl.ErrLong)
			wantDownsample(t, steady(n, 1), s, nil, impl.ErrLong)
		}
		for _, bad := range wrongLists() {
			wantDownsample(t, slices.Concat(bad, steady(impl.MaxList, 1)), s, nil, impl.ErrLong)
		}
		for _, bad := range wrongBucketLists() {
			wantRolledUp(t, slices.Concat(bad, make([]impl.Bucket, impl.MaxList)), s, nil, impl.ErrLong)
		}
	}
	whole := span{0, impl.MaxTime}
	wantDownsample(t, steady(impl.MaxList, 1), whole, []impl.Bucket{counted(0, impl.MaxList, 1)}, impl.OK)
	wantRolledUp(t, manyBuckets(impl.MaxBatch), whole, []impl.Bucket{counted(0, impl.MaxBatch, 0)}, impl.OK)
}

func TestP5CountsOfMaxTimeTogether(t *testing.T) {
	for _, v := range []int{impl.MaxValue, -impl.MaxValue, 0} {
		list := []impl.Bucket{counted(0, 49999, v), counted(5, 50000, v), counted(20, 1, v)}
		for s, count := range map[span]int{{0, 21}: impl.MaxTime, {0, impl.MaxTime}: impl.MaxTime, {0, 20}: impl.MaxTime - 1, {5, 6}: 50000, {5, 21}: 50001} {
			wantRolledUp(t, list, s, []impl.Bucket{counted(s.from, count, v)}, impl.OK)
		}
		wantRolledUp(t, list, span{6, 20}, nil, impl.OK)
		wantRolledUp(t, []impl.Bucket{counted(7, impl.MaxTime, v)}, span{5, 10}, []impl.Bucket{counted(5, impl.MaxTime, v)}, impl.OK)
		wantRolledUp(t, []impl.Bucket{counted(7, impl.MaxTime, v)}, span{8, 10}, nil, impl.OK)
	}
}

func TestP5CountsOfMoreThanMaxTimeTogether(t *testing.T) {
	lists := [][]impl.Bucket{
		{counted(0, 50000, 1), counted(5, 50001, -1)},
		{counted(0, 60000, 0), counted(5, 60000, 0)},
		{counted(0, impl.MaxTime, 1), counted(5, 1, 1)},
		{counted(0, 1, 1), counted(5, impl.MaxTime, 1)},
		{counted(0, 49999, 1), counted(5, 50000, 1), counted(20, 2, 1)},
		{counted(20, 1, 1), counted(30, impl.MaxTime-1, 1), counted(impl.MaxTime-1, 1, 1)},
		bucketsOf(0, 5, slices.Repeat([]impl.Agg{counted(0, 12501, 3).Agg}, impl.MaxBatch)...),
		bucketsOf(0, 5, slices.Repeat([]impl.Agg{counted(0, impl.MaxTime, impl.MaxValue).Agg}, impl.MaxBatch)...),
	}
	for _, list := range lists {
		// All of them, some of them, one, none; the code does not hang on which are there.
		for _, s := range []span{{0, impl.MaxTime}, {0, 1}, {5, 10}, {0, 6}, {1, 4}, {5, 5}, {20, 21}, {50, 60}, {impl.MaxTime, impl.MaxTime}} {
			wantRolledUp(t, list, s, nil, impl.ErrMany)
		}
		// ErrRange and ErrBad come ahead of it.
		for _, s := range wrongSpans() {
			wantRolledUp(t, list, s, nil, impl.ErrRange)
		}
		for _, bad := range wrongAggs() {
			last := list[len(list)-1]
			wantRolledUp(t, append(slices.Clone(list[:len(list)-1]), impl.Bucket{From: last.From, Agg: bad}), span{0, 1}, nil, impl.ErrBad)
		}
	}
}

// What is rolled up of right buckets is right again, and can be handed in once more.
func TestP5WhatIsRolledUpIsRight(t *testing.T) {
	for _, list := range rightBucketLists() {
		total := 0
		for _, b := range list {
			total += b.Agg.Count
		}
		for _, s := range rightSpans() {
			rolled, code := impl.RollUp(list, s.from, s.to)
			if many := total > impl.MaxTime; many != (code == impl.ErrMany) || !many && code != impl.OK {
				t.Errorf("RollUp of %v, %v: code %d", list, s, code)
			}
			if !impl.BucketsOK(rolled) {
				t.Errorf("RollUp of %v, %v = %v, which is not right", list, s, rolled)
			}
			wantRolledUp(t, rolled, s, rolled, impl.OK)
		}
	}
}
