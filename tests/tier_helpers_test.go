package tests

import (
	"fmt"
	"slices"
	"testing"

	"loop.example/g00601/impl"
)

// span is a range, right or not.
type span struct{ from, to int }

func (s span) has(t int) bool { return s.from <= t && t < s.to }

// samplesIn are the samples of a range, looked for one by one.
func samplesIn(list []impl.Sample, s span) []impl.Sample {
	var there []impl.Sample
	for _, x := range list {
		if s.has(x.T) {
			there = append(there, x)
		}
	}
	return there
}

// madeAtOnce is what the document says is made of the samples of a range; it does not lean on the program.
func madeAtOnce(list []impl.Sample, s span) []impl.Bucket {
	there := samplesIn(list, s)
	if len(there) == 0 {
		return nil
	}
	return []impl.Bucket{{From: s.from, Agg: foldOf(there)}}
}

// aggOfBuckets is the aggregate that no bucket or one has.
func aggOfBuckets(list []impl.Bucket) impl.Agg {
	if len(list) == 0 {
		return impl.Agg{}
	}
	return list[0].Agg
}

func mustDownsample(t *testing.T, list []impl.Sample, s span) []impl.Bucket {
	t.Helper()
	got, code := impl.Downsample(list, s.from, s.to)
	if code != impl.OK {
		t.Fatalf("Downsample of %d samples, %v: code %d", len(list), s, code)
	}
	return got
}

func wantDownsample(t *testing.T, list []impl.Sample, s span, want []impl.Bucket, wantCode int) {
	t.Helper()
	got, code := impl.Downsample(list, s.from, s.to)
	if !slices.Equal(got, want) || code != wantCode {
		t.Errorf("Downsample of %.80s, %v = %v, code %d, want %v, code %d", fmt.Sprint(list), s, got, code, want, wantCode)
	}
}

// wantRolledUp checks RollUp and FoldRange, which have the same aggregate and the same code.
func wantRolledUp(t *testing.T, list []impl.Bucket, s span, want []impl.Bucket, wantCode int) {
	t.Helper()
	got, code := impl.RollUp(list, s.from, s.to)
	if !slices.Equal(got, want) || code != wantCode {
		t.Errorf("RollUp of %.80s, %v = %v, code %d, want %v, code %d", fmt.Sprint(list), s, got, code, want, wantCode)
	}
	a, code := impl.FoldRange(list, s.from, s.to)
	if a != aggOfBuckets(want) || code != wantCode {
		t.Errorf("FoldRange of %.80s, %v = %v, code %d, want %v, code %d", fmt.Sprint(list), s, a, code, aggOfBuckets(want), wantCode)
	}
}

// windowsIn are the windows of a width that begin in a range, one behind the other.
func windowsIn(s span, width int) []span {
	var list []span
	for from := s.from; from < s.to; from += width {
		list = append(list, span{from, from + width})
	}
	return list
}

// downsampled are the buckets of the samples of each range.
func downsampled(t *testing.T, list []impl.Sample, spans []span) []impl.Bucket {
	t.Helper()
	var all []impl.Bucket
	for _, s := range spans {
		all = append(all, mustDownsample(t, list, s)...)
	}
	return all
}

// rightSpans are ranges at the bounds and around the windows at their ends, ranges of nothing among them.
func rightSpans() []span {
	ends := []int{0, 1, 4, 5, 6, 9, 10, 19, 20, 21, 40, 100, impl.MaxTime - 20, impl.MaxTime - 5, impl.MaxTime - 1, impl.MaxTime}
	var list []span
	for i, from := range ends {
		for _, to := range ends[i:] {
			list = append(list, span{from, to})
		}
	}
	return list
}

// wrongSpans are one beyond a bound each, the wrong way round, or far off.
func wrongSpans() []span {
	const least, most = -1 << 63, 1<<63 - 1
	return []span{
		{-1, -1}, {-1, 0}, {-1, 5}, {-1, impl.MaxTime}, {-5, 0}, {-20, -5},
		{1, 0}, {5, 4}, {20, 0}, {impl.MaxTime, impl.MaxTime - 1}, {impl.MaxTime, 0},
		{0, impl.MaxTime + 1}, {5, impl.MaxTime + 1}, {impl.MaxTime, impl.MaxTime + 1}, {impl.MaxTime + 1, impl.MaxTime + 1},
		{impl.MaxTime + 1, impl.MaxTime}, {impl.MaxTime + 1, 0}, {-1, impl.MaxTime + 1}, {0, -1}, {5, -1},
		{least, 0}, {0, least}, {least, least}, {most, most}, {0, most}, {most, 0}, {least, most}, {most, least},
	}
}

// counted is a bucket of that many samples of one value.
func counted(from, count, v int) impl.Bucket {
	return impl.Bucket{From: from, Agg: impl.Agg{Count: count, Sum: count * v, Min: v, Max: v, First: v, Last: v}}
}

// manyBuckets are n, all right but for their number.
func manyBuckets(n int) []impl.Bucket {
	return bucketsOf(0, 1, slices.Repeat([]impl.Agg{{Count: 1}}, n)...)
}
