package tests

import (
	"math/rand"
	"slices"
	"testing"

	"loop.example/g00601/impl"
)

// denseSamples has a sample at most of the times from first on, and whole windows without any.
func denseSamples(r *rand.Rand, first, n int) []impl.Sample {
	var list []impl.Sample
	for t := first; t < first+n; t++ {
		if t/5%4 != r.Intn(4) && t/20%3 != 1 {
			list = append(list, impl.Sample{T: t, V: r.Intn(2*impl.MaxValue+1) - impl.MaxValue})
		}
	}
	return list
}

// tierLists are samples of all kinds, each with windows that none is in.
func tierLists() [][]impl.Sample {
	r := rand.New(rand.NewSource(51))
	return append(mixedLists(),
		steady(impl.MaxBatch*impl.Width2, -3),
		samplesOf(0, 5, 1, -2, 3, -4, 5, -6, 7, -8, 9),
		samplesOf(4, 5, 9, 8, 7, 6, -5, -4, -3, 2, 1),
		samplesOf(7, 13, 5, 5, -5, 0, 12, -12, 4),
		denseSamples(r, 0, 160),
		denseSamples(r, 33, 90),
		denseSamples(r, impl.MaxTime-160, 160),
		samplesOf(impl.MaxTime-4, 1, impl.MaxValue, -impl.MaxValue, 0, 7),
	)
}

// placesOf are the beginnings of stretches of MaxBatch windows of Width2 that tests look at: at both ends of time and in between.
func placesOf() []int {
	const wide = impl.MaxBatch * impl.Width2
	return []int{0, wide, 3 * wide, impl.MaxTime - wide}
}

func TestP5SamplesOfARangeMakeOneBucket(t *testing.T) {
	for _, list := range tierLists() {
		for _, s := range rightSpans() {
			wantDownsample(t, list, s, madeAtOnce(list, s), impl.OK)
		}
	}
}

func TestP5WindowsRolledUpAreMadeAtOnce(t *testing.T) {
	for _, list := range tierLists() {
		for _, place := range placesOf() {
			stretch := span{place, place + impl.MaxBatch*impl.Width2}
			var wide []impl.Bucket
			for _, window := range windowsIn(stretch, impl.Width2) {
				narrow := downsampled(t, list, windowsIn(window, impl.Width1))
				want := madeAtOnce(list, window)
				wantRolledUp(t, narrow, window, want, impl.OK)
				wantDownsample(t, list, window, want, impl.OK)
				wide = append(wide, want...)
			}
			wantRolledUp(t, wide, stretch, madeAtOnce(list, stretch), impl.OK)
		}
	}
}

// Each run of whole windows is made of its own samples alone, though buckets of others are handed in, too.
func TestP5RunsOfWindowsAmongOthers(t *testing.T) {
	for _, list := range tierLists() {
		for _, width := range []int{1, impl.Width1, impl.Width2} {
			for _, place := range placesOf() {
				windows := windowsIn(span{place, place + impl.MaxBatch*width}, width)
				buckets := downsampled(t, list, windows)
				for i := range len(windows) + 1 {
					for j := i; j <= len(windows); j++ {
						run := span{place + i*width, place + j*width}
						wantRolledUp(t, buckets, run, madeAtOnce(list, run), impl.OK)
					}
				}
			}
		}
	}
}

// parted cuts a range into at most MaxBatch ranges at random, some of nothing.
func parted(r *rand.Rand, s span) []span {
	cuts := []int{s.from, s.to}
	for range r.Intn(impl.MaxBatch) {
		cuts = append(cuts, s.from+r.Intn(s.to-s.from+1))
	}
	slices.Sort(cuts)
	var list []span
	for i := range len(cuts) - 1 {
		list = append(list, span{cuts[i], cuts[i+1]})
	}
	return list
}

func TestP5HoweverARangeIsParted(t *testing.T) {
	r := rand.New(rand.NewSource(52))
	for round := range 1500 {
		list := randomSamples(r, r.Intn(120), []int{1, 50, impl.MaxValue}[round%3])
		from := r.Intn(600)
		s := span{from, from + r.Intn(600)}
		want := madeAtOnce(list, s)
		wantRolledUp(t, downsampled(t, list, parted(r, s)), s, want, impl.OK)
		wantDownsample(t, list, s, want, impl.OK)
	}
}

// The longest list that may be handed in, in steps: first to MaxBatch windows of MaxBatch parts each, then to one.
func TestP5TheLongestListStepByStep(t *testing.T) {
	const part = impl.MaxList / impl.MaxBatch / impl.MaxBatch
	for _, v := range []int{impl.MaxValue, -impl.MaxValue, 0} {
		list := steady(impl.MaxList, v)
		var wide []impl.Bucket
		for _, s := range windowsIn(span{0, impl.MaxList}, part*impl.MaxBatch) {
			rolled, code := impl.RollUp(downsampled(t, list, windowsIn(s, part)), s.from, s.to)
			wantCode(t, "RollUp", code, impl.OK)
			wide = append(wide, rolled...)
		}
		whole := span{0, impl.MaxTime}
		wantRolledUp(t, wide, whole, []impl.Bucket{counted(0, impl.MaxList, v)}, impl.OK)
		wantDownsample(t, list, whole, []impl.Bucket{counted(0, impl.MaxList, v)}, impl.OK)
	}
}

func TestP5RangesThatNoSampleIsIn(t *testing.T) {
	list := samplesOf(4, 16, 1, 2, 3) // at 4, 20 and 36
	for _, s := range []span{{0, 4}, {5, 20}, {21, 36}, {37, 40}, {40, impl.MaxTime}, {0, 0}, {4, 4}, {20, 20}, {impl.MaxTime, impl.MaxTime}} {
		wantDownsample(t, list, s, nil, impl.OK)
		wantRolledUp(t, downsampled(t, list, windowsIn(span{0, 40}, 1)), s, nil, impl.OK)
		wantDownsample(t, nil, s, nil, impl.OK)
		wantRolledUp(t, nil, s, nil, impl.OK)
	}
	for _, s := range rightSpans() {
		wantDownsample(t, nil, s, nil, impl.OK)
		wantRolledUp(t, []impl.Bucket{}, s, nil, impl.OK)
	}
}

func TestP5OrderOfTimeCounts(t *testing.T) {
	list := samplesOf(0, 5, 4, 9, -3, 6)
	want := []impl.Bucket{{From: 0, Agg: impl.Agg{Count: 4, Sum: 16, Min: -3, Max: 9, First: 4, Last: 6}}}
	wantDownsample(t, list, span{0, 20}, want, impl.OK)
	wantRolledUp(t, downsampled(t, list, windowsIn(span{0, 20}, impl.Width1)), span{0, 20}, want, impl.OK)
}
