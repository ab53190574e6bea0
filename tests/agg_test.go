package tests

import (
	"fmt"
	"math/rand"
	"testing"

	"loop.example/g00601/impl"
)

// foldOf works an aggregate out from what the document says of it, number by number.
func foldOf(list []impl.Sample) impl.Agg {
	if len(list) == 0 {
		return impl.Agg{}
	}
	a := impl.Agg{Count: len(list), Min: list[0].V, Max: list[0].V, First: list[0].V, Last: list[len(list)-1].V}
	for _, s := range list {
		a.Sum += s.V
		if s.V < a.Min {
			a.Min = s.V
		}
		if s.V > a.Max {
			a.Max = s.V
		}
	}
	return a
}

// samplesOf has the values at times that rise by step from first on.
func samplesOf(first, step int, values ...int) []impl.Sample {
	list := make([]impl.Sample, len(values))
	for i, v := range values {
		list[i] = impl.Sample{T: first + i*step, V: v}
	}
	return list
}

// steady is n samples of one value.
func steady(n, v int) []impl.Sample {
	values := make([]int, n)
	for i := range values {
		values[i] = v
	}
	return samplesOf(0, 1, values...)
}

func randomSamples(r *rand.Rand, n, spread int) []impl.Sample {
	list := make([]impl.Sample, n)
	t := r.Intn(5)
	for i := range list {
		list[i] = impl.Sample{T: t, V: r.Intn(2*spread+1) - spread}
		t += 1 + r.Intn(20)
	}
	return list
}

func mustAgg(t *testing.T, list []impl.Sample) impl.Agg {
	t.Helper()
	a, code := impl.AggOf(list)
	if code != impl.OK {
		t.Fatalf("AggOf of %d samples: code %d", len(list), code)
	}
	return a
}

func mustMerge(t *testing.T, a, b impl.Agg) impl.Agg {
	t.Helper()
	m, code := impl.MergeAgg(a, b)
	if code != impl.OK {
		t.Fatalf("MergeAgg(%v, %v): code %d", a, b, code)
	}
	return m
}

func wantAgg(t *testing.T, what string, got impl.Agg, code int, want impl.Agg, wantCode int) {
	t.Helper()
	if got != want || code != wantCode {
		t.Errorf("%s = %v, code %d, want %v, code %d", what, got, code, want, wantCode)
	}
}

// mixedLists are right lists of all kinds: of nothing, of one, at the bounds, of values below and above 0.
func mixedLists() [][]impl.Sample {
	return [][]impl.Sample{
		nil,
		samplesOf(0, 1, 0),
		samplesOf(impl.MaxTime-1, 1, -3),
		samplesOf(0, impl.MaxTime-1, impl.MaxValue, -impl.MaxValue),
		samplesOf(3, 7, -5, -4, -9, -4),
		samplesOf(1, 1, 4, 0, 4, 0, 4),
		samplesOf(10, 5, 1, 2, 3, 4, 5, 6, 7),
		samplesOf(10, 5, 7, 6, 5, 4, 3, 2, 1),
		samplesOf(0, 1, 3, -8, 11, -8, 2, 11, -1),
	}
}

func TestP3AggOfIsWhatTheDocumentSays(t *testing.T) {
	for _, list := range mixedLists() {
		a, code := impl.AggOf(list)
		wantAgg(t, fmt.Sprintf("AggOf(%v)", list), a, code, foldOf(list), impl.OK)
		if !impl.AggOK(a) || !impl.SamplesOK(list) {
			t.Errorf("%v, %v: not right", list, a)
		}
	}
	for _, v := range []int{impl.MaxValue, -impl.MaxValue, 0, 1} {
		list := steady(impl.MaxList, v)
		a, code := impl.AggOf(list)
		wantAgg(t, fmt.Sprint("AggOf of MaxList times ", v), a, code, impl.Agg{Count: impl.MaxList, Sum: v * impl.MaxList, Min: v, Max: v, First: v, Last: v}, impl.OK)
		if !impl.AggOK(a) {
			t.Error("AggOK", a)
		}
	}
}

func TestP3TwoPartsAreAll(t *testing.T) {
	for _, list := range mixedLists() {
		all := mustAgg(t, list)
		for cut := range len(list) + 1 {
			a, b := mustAgg(t, list[:cut]), mustAgg(t, list[cut:])
			m, code := impl.MergeAgg(a, b)
			wantAgg(t, fmt.Sprintf("%v cut at %d", list, cut), m, code, all, impl.OK)
		}
	}
}

// partings calls do with every way to part a list of n into runs, each told by its ends.
func partings(n int, do func(ends []int)) {
	if n == 0 {
		do(nil)
		return
	}
	for cuts := range 1 << (n - 1) {
		var ends []int
		for i := range n - 1 {
			if cuts>>i&1 == 1 {
				ends = append(ends, i+1)
			}
		}
		do(append(ends, n))
	}
}

func TestP3HoweverAListIsParted(t *testing.T) {
	for _, list := range mixedLists() {
		all := mustAgg(t, list)
		partings(len(list), func(ends []int) {
			var parts []impl.Agg
			from := 0
			for _, end := range ends {
				parts = append(parts, mustAgg(t, list[from:end]), impl.Agg{})
				from = end
			}
			var left, right impl.Agg
			for i := range parts {
				left = mustMerge(t, left, parts[i])
				right = mustMerge(t, parts[len(parts)-1-i], right)
			}
			if left != all || right != all {
				t.Errorf("%v parted at %v: %v from the left, %v from the right, want %v", list, ends, left, right, all)
			}
		})
	}
}

// mergedTree merges a list's parts two by two, however deep r cuts it, with parts of nothing among them.
func mergedTree(t *testing.T, r *rand.Rand, list []impl.Sample) impl.Agg {
	if len(list) < 2 || r.Intn(8) == 0 {
		return mustAgg(t, list)
	}
	cut := r.Intn(len(list) + 1)
	return mustMerge(t, mergedTree(t, r, list[:cut]), mergedTree(t, r, list[cut:]))
}

func TestP3RandomListsInRandomTrees(t *testing.T) {
	r := rand.New(rand.NewSource(3))
	for round := range 300 {
		list := randomSamples(r, r.Intn(200), []int{1, 50, impl.MaxValue}[round%3])
		want := foldOf(list)
		if got := mergedTree(t, r, list); got != want || mustAgg(t, list) != want {
			t.Fatalf("round %d: %v, %v, want %v", round, got, mustAgg(t, list), want)
		}
	}
}

func TestP3NothingAddsNothing(t *testing.T) {
	for _, list := range mixedLists() {
		a := mustAgg(t, list)
		if b, c := mustMerge(t, impl.Agg{}, a), mustMerge(t, a, impl.Agg{}); b != a || c != a {
			t.Errorf("%v with nothing: %v, %v", a, b, c)
		}
	}
	// Nothing has no values: a Min of 0 must not come of it.
	above, below := mustAgg(t, samplesOf(0, 1, 5, 6)), mustAgg(t, samplesOf(0, 1, -5, -6))
	if m := mustMerge(t, impl.Agg{}, above); m.Min != 5 || m.First != 5 {
		t.Error(m)
	}
	if m := mustMerge(t, below, impl.Agg{}); m.Max != -5 || m.Last != -6 {
		t.Error(m)
	}
}

func TestP3TheOrderOfPartsCounts(t *testing.T) {
	a, b := mustAgg(t, samplesOf(0, 1, 1, 2)), mustAgg(t, samplesOf(2, 1, 3, 4))
	m, code := impl.MergeAgg(a, b)
	wantAgg(t, "in order", m, code, impl.Agg{Count: 4, Sum: 10, Min: 1, Max: 4, First: 1, Last: 4}, impl.OK)
	m, code = impl.MergeAgg(b, a)
	wantAgg(t, "the other way", m, code, impl.Agg{Count: 4, Sum: 10, Min: 1, Max: 4, First: 3, Last: 2}, impl.OK)
}

func TestP3MeansRoundDown(t *testing.T) {
	for _, e := range []struct{ sum, count, mean, rest int }{
		{0, 1, 0, 0}, {0, 7, 0, 0}, {6, 3, 2, 0}, {7, 3, 2, 1}, {8, 3, 2, 2}, {1, 100000, 0, 1},
		{-1, 1, -1, 0}, {-1, 2, -1, 1}, {-6, 3, -2, 0}, {-7, 3, -3, 2}, {-8, 3, -3, 1}, {-1, 100000, -1, 99999},
		{-99999, 100000, -1, 1}, {-100000, 100000, -1, 0}, {-100001, 100000, -2, 99999},
		{100000000000, 100000, 1000000, 0}, {-100000000000, 100000, -1000000, 0},
		{99999999999, 100000, 999999, 99999}, {-99999999999, 100000, -1000000, 1},
	} {
		a := impl.Agg{Count: e.count, Sum: e.sum, Min: -impl.MaxValue, Max: impl.MaxValue}
		if mean, rest, code := impl.MeanOf(a); mean != e.mean || rest != e.rest || code != impl.OK {
			t.Errorf("MeanOf %d of %d = %d, %d, code %d, want %d, %d", e.sum, e.count, mean, rest, code, e.mean, e.rest)
		}
	}
}

func TestP3MeansAddUp(t *testing.T) {
	for count := 1; count <= 12; count++ {
		for sum := -count * 9; sum <= count*9; sum++ {
			mean, rest, code := impl.MeanOf(impl.Agg{Count: count, Sum: sum, Min: -9, Max: 9})
			if mean*count+rest != sum || rest < 0 || rest >= count || code != impl.OK {
				t.Errorf("MeanOf %d of %d = %d, %d, code %d", sum, count, mean, rest, code)
			}
		}
	}
}
