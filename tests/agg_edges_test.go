package tests

import (
	"fmt"
	"math"
	"slices"
	"testing"

	"loop.example/g00601/impl"
)

// rightAggs are at the bounds that the document names, and within.
func rightAggs() []impl.Agg {
	const most, top = impl.MaxTime, impl.MaxValue
	return []impl.Agg{
		{},
		{Count: 1},
		{Count: most},
		{Count: most, Sum: most * top, Min: top, Max: top, First: top, Last: top},
		{Count: most, Sum: -most * top, Min: -top, Max: -top, First: -top, Last: -top},
		{Count: most, Sum: most * top, Min: -top, Max: top, First: -top, Last: top},
		{Count: most, Sum: -most * top, Min: -top, Max: top, First: top, Last: -top},
		{Count: 3, Sum: 11, Min: -2, Max: 8, First: 5, Last: 8},
		{Count: 3, Sum: 24, Min: -2, Max: 8, First: -2, Last: 8},
		{Count: 3, Sum: -6, Min: -2, Max: 8, First: 8, Last: -2},
		{Count: 2, Sum: -7, Min: -4, Max: -3, First: -3, Last: -4},
	}
}

// wrongAggs are one beyond a bound each, or far off.
func wrongAggs() []impl.Agg {
	const most, top = impl.MaxTime, impl.MaxValue
	return []impl.Agg{
		{Count: -1},
		{Count: most + 1},
		{Sum: 1}, {Sum: -1}, {Min: -1}, {Min: 1}, {Max: 1}, {Max: -1}, {First: 1}, {Last: -1},
		{Count: 1, Sum: top + 1, Min: top + 1, Max: top + 1, First: top + 1, Last: top + 1},
		{Count: 1, Sum: -top - 1, Min: -top - 1, Max: -top - 1, First: -top - 1, Last: -top - 1},
		{Count: 1, Max: top + 1},
		{Count: 1, Min: -top - 1},
		{Count: 2, Sum: 0, Min: 1, Max: -1},
		{Count: 1, Sum: 5, Min: 5, Max: 4, First: 5, Last: 5},
		{Count: 3, Sum: 25, Min: -2, Max: 8, First: 5, Last: 8},
		{Count: 3, Sum: -7, Min: -2, Max: 8, First: 5, Last: 8},
		{Count: 3, Sum: 11, Min: -2, Max: 8, First: 9, Last: 8},
		{Count: 3, Sum: 11, Min: -2, Max: 8, First: -3, Last: 8},
		{Count: 3, Sum: 11, Min: -2, Max: 8, First: 5, Last: 9},
		{Count: 3, Sum: 11, Min: -2, Max: 8, First: 5, Last: -3},
		{Count: most, Sum: most*top + 1, Min: top, Max: top, First: top, Last: top},
		{Count: most, Sum: -most*top - 1, Min: -top, Max: -top, First: -top, Last: -top},
		{Count: math.MaxInt}, {Count: math.MinInt},
		{Count: math.MinInt, Sum: math.MinInt, Min: math.MinInt, Max: math.MaxInt, First: math.MinInt, Last: math.MaxInt},
		// Products that wrap would let these pass.
		{Count: 1 << 62, Min: 4, Max: 4, First: 4, Last: 4},
		{Count: 4, Min: math.MinInt, Max: math.MinInt / 2},
		{Count: 2, Sum: -2, Min: math.MaxInt, Max: math.MaxInt, First: math.MaxInt, Last: math.MaxInt},
	}
}

// wrongLists are one beyond a bound each, or far off.
func wrongLists() [][]impl.Sample {
	return [][]impl.Sample{
		{{T: -1}},
		{{T: impl.MaxTime}},
		{{V: impl.MaxValue + 1}},
		{{V: -impl.MaxValue - 1}},
		{{T: math.MinInt}}, {{T: math.MaxInt}}, {{V: math.MinInt}}, {{V: math.MaxInt}},
		{{T: 2}, {T: 2}},
		{{T: 2}, {T: 1}},
		{{T: 1}, {T: 2}, {T: 3}, {T: 3}},
		{{T: 1}, {T: 2}, {T: 3}, {T: 2}},
		{{T: 1}, {T: 2}, {T: impl.MaxTime}},
		{{T: 1}, {T: 2}, {T: 3, V: impl.MaxValue + 1}},
		{{T: 1, V: math.MinInt}, {T: 2}},
		{{T: math.MaxInt}, {T: math.MinInt}},
	}
}

func TestP3BoundsOfAggregates(t *testing.T) {
	for _, a := range rightAggs() {
		if !impl.AggOK(a) {
			t.Errorf("%v is right", a)
		}
	}
	for _, a := range wrongAggs() {
		if impl.AggOK(a) {
			t.Errorf("%v is not right", a)
		}
	}
}

func TestP3BoundsOfSamples(t *testing.T) {
	for _, list := range append(mixedLists(), steady(impl.MaxList, 1), samplesOf(impl.MaxTime-impl.MaxList, 1, make([]int, impl.MaxList)...)) {
		if !impl.SamplesOK(list) {
			t.Errorf("%v: samples that are right", list)
		}
	}
	for _, list := range wrongLists() {
		if impl.SamplesOK(list) {
			t.Errorf("%v: samples that are not right", list)
		}
		a, code := impl.AggOf(list)
		wantAgg(t, fmt.Sprintf("AggOf(%v)", list), a, code, impl.Agg{}, impl.ErrBad)
	}
}

func TestP3ListsThatAreTooLong(t *testing.T) {
	long := steady(impl.MaxList+1, 1)
	if impl.SamplesOK(long) {
		t.Error("SamplesOK of more than MaxList")
	}
	a, code := impl.AggOf(long)
	wantAgg(t, "AggOf of more than MaxList", a, code, impl.Agg{}, impl.ErrLong)
	for _, bad := range wrongLists() {
		list := slices.Concat(bad, long)
		a, code := impl.AggOf(list)
		wantAgg(t, fmt.Sprintf("AggOf of %v and more than MaxList", bad), a, code, impl.Agg{}, impl.ErrLong)
	}
	a, code = impl.AggOf(append(steady(impl.MaxList-1, 1), impl.Sample{T: impl.MaxTime}))
	wantAgg(t, "AggOf of MaxList with a wrong one", a, code, impl.Agg{}, impl.ErrBad)
}

func TestP3MergesOfWhatIsNotRight(t *testing.T) {
	for _, bad := range wrongAggs() {
		for _, a := range append(rightAggs(), wrongAggs()...) {
			m, code := impl.MergeAgg(a, bad)
			wantAgg(t, fmt.Sprintf("MergeAgg(%v, %v)", a, bad), m, code, impl.Agg{}, impl.ErrBad)
			m, code = impl.MergeAgg(bad, a)
			wantAgg(t, fmt.Sprintf("MergeAgg(%v, %v)", bad, a), m, code, impl.Agg{}, impl.ErrBad)
		}
	}
}

func TestP3MergesOfTooMany(t *testing.T) {
	agg := func(count, v int) impl.Agg {
		return impl.Agg{Count: count, Sum: count * v, Min: v, Max: v, First: v, Last: v}
	}
	for _, e := range []struct{ a, b, want int }{
		{impl.MaxTime, 0, impl.OK}, {0, impl.MaxTime, impl.OK}, {impl.MaxTime - 1, 1, impl.OK}, {1, impl.MaxTime - 1, impl.OK},
		{50000, 50000, impl.OK}, {50000, 50001, impl.ErrMany}, {50001, 50000, impl.ErrMany},
		{impl.MaxTime, 1, impl.ErrMany}, {1, impl.MaxTime, impl.ErrMany}, {impl.MaxTime, impl.MaxTime, impl.ErrMany},
	} {
		for _, v := range []int{impl.MaxValue, -impl.MaxValue, impl.MaxValue - 1} {
			a, b, want := agg(e.a, v), agg(e.b, v), agg(e.a+e.b, v)
			if e.a == 0 {
				a = impl.Agg{}
			}
			if e.b == 0 {
				b = impl.Agg{}
			}
			if e.want != impl.OK {
				want = impl.Agg{}
			}
			m, code := impl.MergeAgg(a, b)
			wantAgg(t, fmt.Sprintf("%d and %d of %d", e.a, e.b, v), m, code, want, e.want)
		}
	}
}

func TestP3MergesStayRight(t *testing.T) {
	for _, a := range rightAggs() {
		for _, b := range rightAggs() {
			m, code := impl.MergeAgg(a, b)
			many := a.Count+b.Count > impl.MaxTime
			if !impl.AggOK(m) || many != (code == impl.ErrMany) || !many && code != impl.OK {
				t.Errorf("MergeAgg(%v, %v) = %v, code %d", a, b, m, code)
			}
		}
	}
}

func TestP3MeansOfNothingAndOfWhatIsNotRight(t *testing.T) {
	want := map[impl.Agg]int{{}: impl.ErrNone}
	for _, bad := range wrongAggs() {
		want[bad] = impl.ErrBad
	}
	for a, c := range want {
		if mean, rest, code := impl.MeanOf(a); mean != 0 || rest != 0 || code != c {
			t.Errorf("MeanOf(%v) = %d, %d, code %d, want code %d", a, mean, rest, code, c)
		}
	}
}
