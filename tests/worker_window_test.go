package tests

import (
	"math/rand"
	"slices"
	"strings"
	"testing"

	"loop.example/g00601/impl"
)

var (
	rawEntry    = impl.Entry{From: 0, To: 30, Key: keyed(0, 1, 2)}
	windowEntry = impl.Entry{Tier: 1, From: 0, To: 5, Key: keyed(1, 0, 1)}
	wideEntry   = impl.Entry{Tier: 2, From: 0, To: 20, Key: keyed(2, 0, 1)}
)

func wantWindow(t *testing.T, e impl.Entry, data string, r span, want impl.Agg, wantCode int) {
	t.Helper()
	if got, code := impl.WindowOf(e, data, r.from, r.to); got != want || code != wantCode {
		t.Errorf("WindowOf %.60v, %.80q of %d bytes, %v = %v, code %d, want %v, code %d", e, data, len(data), r, got, code, want, wantCode)
	}
}

func TestP9WindowsOfRawData(t *testing.T) {
	data := "1=5 3=-6 5=9 29=2"
	for _, c := range []struct {
		r    span
		want impl.Agg
	}{
		{span{0, 30}, impl.Agg{Count: 4, Sum: 10, Min: -6, Max: 9, First: 5, Last: 2}},
		{span{0, 100000}, impl.Agg{Count: 4, Sum: 10, Min: -6, Max: 9, First: 5, Last: 2}},
		{span{1, 29}, impl.Agg{Count: 3, Sum: 8, Min: -6, Max: 9, First: 5, Last: 9}},
		{span{1, 5}, impl.Agg{Count: 2, Sum: -1, Min: -6, Max: 5, First: 5, Last: -6}},
		{span{2, 6}, impl.Agg{Count: 2, Sum: 3, Min: -6, Max: 9, First: -6, Last: 9}},
		{span{3, 4}, impl.Agg{Count: 1, Sum: -6, Min: -6, Max: -6, First: -6, Last: -6}},
		{span{0, 1}, impl.Agg{}}, {span{4, 5}, impl.Agg{}}, {span{30, 100000}, impl.Agg{}}, {span{3, 3}, impl.Agg{}}, {span{0, 0}, impl.Agg{}}, {span{100000, 100000}, impl.Agg{}},
	} {
		wantWindow(t, rawEntry, data, c.r, c.want, impl.OK)
	}
	last := impl.Agg{Count: 1, Sum: -7, Min: -7, Max: -7, First: -7, Last: -7}
	wantWindow(t, rawEntry, "99999=-7", span{99999, 100000}, last, impl.OK)
	wantWindow(t, rawEntry, "0=-7", span{0, 1}, last, impl.OK)
}

func TestP9WindowsOfBuckets(t *testing.T) {
	data := "0:3,6,-6,7,5,7 5:1,8,8,8,8,8 10:2,-3,-2,-1,-1,-2 20:1,0,0,0,0,0"
	for _, e := range []impl.Entry{windowEntry, wideEntry} {
		for _, c := range []struct {
			r    span
			want impl.Agg
		}{
			{span{0, 20}, impl.Agg{Count: 6, Sum: 11, Min: -6, Max: 8, First: 5, Last: -2}},
			{span{0, 21}, impl.Agg{Count: 7, Sum: 11, Min: -6, Max: 8, First: 5, Last: 0}},
			{span{0, 5}, impl.Agg{Count: 3, Sum: 6, Min: -6, Max: 7, First: 5, Last: 7}},
			{span{5, 10}, impl.Agg{Count: 1, Sum: 8, Min: 8, Max: 8, First: 8, Last: 8}},
			{span{1, 11}, impl.Agg{Count: 3, Sum: 5, Min: -2, Max: 8, First: 8, Last: -2}},
			{span{20, 100000}, impl.Agg{Count: 1}},
			{span{1, 5}, impl.Agg{}}, {span{11, 20}, impl.Agg{}}, {span{5, 5}, impl.Agg{}}, {span{0, 0}, impl.Agg{}},
		} {
			wantWindow(t, e, data, c.r, c.want, impl.OK)
		}
	}
}

func TestP9WindowsOfNothing(t *testing.T) {
	for _, e := range []impl.Entry{rawEntry, windowEntry, wideEntry} {
		for _, r := range rightSpans() {
			wantWindow(t, e, "", r, impl.Agg{}, impl.OK)
		}
	}
}

// Where the entry itself begins and ends is not asked, nor how wide the range is.
func TestP9WindowsOfAllRanges(t *testing.T) {
	r := rand.New(rand.NewSource(5))
	entries := []impl.Entry{rawEntry, windowEntry, wideEntry, {From: 99999, To: 100000, Key: keyed(0, 999999, 999999)}, {Tier: 1, From: 7, To: 9, Key: keyed(1, 3, 0)}, {Tier: 2, From: 0, To: 100000, Key: keyed(2, 999999, 1)}}
	for _, e := range entries {
		for range 60 {
			data := samplesWritten(randomSamples(r, r.Intn(9), 1000000))
			if e.Tier > 0 {
				data = bucketsWritten(randomBuckets(r))
			}
			for range 40 {
				from := r.Intn(120)
				window := span{from, from + r.Intn(40)}
				if r.Intn(4) == 0 {
					window = span{r.Intn(50000), 50000 + r.Intn(50001)}
				}
				want, ok := plainWindow(e.Tier, data, window)
				if ok {
					wantWindow(t, e, data, window, want, impl.OK)
				} else {
					wantWindow(t, e, data, window, impl.Agg{}, impl.ErrDamaged)
				}
			}
		}
	}
}

func TestP9DataThatCannotBeRead(t *testing.T) {
	raw := []string{"what", " ", "1=5 ", " 1=5", "1=5  2=6", "1=5\n", "2=6 1=5", "1=5 1=5", "100000=1", "-1=1", "1=1000001", "1=05", "1:1,5,5,5,5,5", "0=0 1=0 2=0 3=0 4=0 5=0 6=0 7=0 8=0", "\x00"}
	buckets := []string{"what", " ", "1=5", "0:1,5,5,5,5,5 ", "0:1,5,5,5,5", "0:0,0,0,0,0,0", "0:", "5:1,5,5,5,5,5 0:1,5,5,5,5,5", "0:1,5,5,5,5,5 0:1,5,5,5,5,5", "100000:1,5,5,5,5,5", "-1:1,5,5,5,5,5", "0:2,5,5,5,5,5", "0:100001,0,0,0,0,0",
		strings.Repeat("0:1,5,5,5,5,5 ", 9), "1,5,5,5,5,5"}
	for _, r := range []span{{0, 5}, {0, 100000}, {7, 7}, {50000, 50001}} {
		for _, data := range raw {
			wantWindow(t, rawEntry, data, r, impl.Agg{}, impl.ErrDamaged)
		}
		for _, data := range buckets {
			wantWindow(t, windowEntry, data, r, impl.Agg{}, impl.ErrDamaged)
			wantWindow(t, wideEntry, data, r, impl.Agg{}, impl.ErrDamaged)
		}
	}
}

// All that the data count is asked for, whether it lies in the range or not.
func TestP9CountsAboveTheirBound(t *testing.T) {
	for _, e := range []impl.Entry{windowEntry, wideEntry} {
		for _, counts := range [][]int{{100000}, {99999, 1}, {1, 99999}, {50000, 50000}, {99998, 1, 1}, {1, 1, 1, 1, 1, 1, 1, 99993}} {
			var list []impl.Bucket
			for i, count := range counts {
				list = append(list, counted(5*i, count, -2))
			}
			all := counted(0, 100000, -2).Agg
			wantWindow(t, e, bucketsWritten(list), span{0, 100}, all, impl.OK)
			wantWindow(t, e, bucketsWritten(list), span{0, 5}, list[0].Agg, impl.OK)
			wantWindow(t, e, bucketsWritten(list), span{50, 60}, impl.Agg{}, impl.OK)
			if len(list) == 8 {
				continue
			}
			more := append(list, counted(77, 1, 0))
			for _, r := range []span{{0, 100}, {0, 5}, {77, 78}, {50, 60}, {5, 5}, {0, 100000}} {
				wantWindow(t, e, bucketsWritten(more), r, impl.Agg{}, impl.ErrDamaged)
			}
		}
		full := slices.Repeat([]impl.Agg{counted(0, 100000, 1000000).Agg}, 8)
		wantWindow(t, e, bucketsWritten(bucketsOf(0, 5, full...)), span{0, 5}, impl.Agg{}, impl.ErrDamaged)
	}
}

// wrongEntries are one beyond a bound each, or far off.
func wrongEntries() []impl.Entry {
	const least, most = -1 << 63, 1<<63 - 1
	list := []impl.Entry{
		{}, {To: 5}, {Key: keyed(0, 1, 2)}, {From: 5, To: 5, Key: keyed(0, 1, 2)}, {From: 5, To: 4, Key: keyed(0, 1, 2)}, {From: -1, To: 4, Key: keyed(0, 1, 2)}, {To: 100001, Key: keyed(0, 1, 2)},
		{From: 100000, To: 100000, Key: keyed(0, 1, 2)}, {From: 100000, To: 100001, Key: keyed(0, 1, 2)}, {From: least, To: most, Key: keyed(0, 1, 2)}, {From: most, To: least, Key: keyed(0, 1, 2)},
		{To: 5, Key: keyed(1, 0, 1)}, {Tier: 1, To: 5, Key: keyed(0, 1, 2)}, {Tier: 1, To: 5, Key: keyed(2, 0, 1)}, {Tier: 2, To: 5, Key: keyed(1, 0, 1)},
		{Tier: 3, To: 5, Key: "t3/000000-000001"}, {Tier: -1, To: 5, Key: keyed(0, 1, 2)}, {Tier: most, To: 5, Key: keyed(2, 0, 1)}, {Tier: least, To: 5, Key: keyed(0, 0, 1)},
	}
	for _, key := range []string{"raw", "raw/", "raw/000001-00000", "raw/000001-0000022", "raw/000001-000002 ", "RAW/000001-000002", "raw/-00001-000002", "lease", "man/000001", text(30), text(impl.MaxText), text(impl.MaxText + 1)} {
		list = append(list, impl.Entry{To: 5, Key: key})
	}
	return list
}

func TestP9WindowCodesInOrder(t *testing.T) {
	long, longer := strings.Repeat(" ", impl.MaxText), strings.Repeat("1", impl.MaxText+1)
	for _, e := range append(wrongEntries(), rawEntry, windowEntry, wideEntry) {
		right := plainEntry(e.Tier, e.From, e.To, e.Key)
		for _, r := range append(wrongSpans(), span{0, 0}, span{0, 5}, span{99999, 100000}) {
			wantWindow(t, e, longer, r, impl.Agg{}, impl.ErrLong)
			wantWindow(t, e, strings.Repeat("1=5 ", impl.MaxText), r, impl.Agg{}, impl.ErrLong)
			for _, data := range []string{"", "what", long} {
				ranged := 0 <= r.from && r.from <= r.to && r.to <= 100000
				switch {
				case !right:
					wantWindow(t, e, data, r, impl.Agg{}, impl.ErrBad)
				case !ranged:
					wantWindow(t, e, data, r, impl.Agg{}, impl.ErrRange)
				case data != "":
					wantWindow(t, e, data, r, impl.Agg{}, impl.ErrDamaged)
				default:
					wantWindow(t, e, data, r, impl.Agg{}, impl.OK)
				}
			}
		}
	}
}
