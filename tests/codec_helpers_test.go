package tests

import (
	"fmt"
	"regexp"
	"slices"
	"strconv"
	"strings"
	"testing"

	"loop.example/g00601/impl"
)

// listKind is a kind of lists that have texts. Its plain says what the document says of a text, and does not lean on the program: the list, and whether there is one.
type listKind[T comparable] struct {
	name  string
	write func([]T) (string, int)
	read  func(string) ([]T, int)
	plain func(string) ([]T, bool)
}

func sampleKind() listKind[impl.Sample] {
	return listKind[impl.Sample]{"samples", impl.SamplesText, impl.ReadSamples, plainSamples}
}

func bucketKind() listKind[impl.Bucket] {
	return listKind[impl.Bucket]{"buckets", impl.BucketsText, impl.ReadBuckets, plainBuckets}
}

const numberForm = `(0|-?[1-9][0-9]{0,17})`

var (
	sampleForm = regexp.MustCompile(`\A` + numberForm + `=` + numberForm + `\z`)
	bucketForm = regexp.MustCompile(`\A` + numberForm + `:` + numberForm + strings.Repeat(`,`+numberForm, 5) + `\z`)
)

// plainNumbers are the numbers of each item of a text, if all items have that form.
func plainNumbers(form *regexp.Regexp, text string) ([][]int, bool) {
	if text == "" {
		return nil, true
	}
	var rows [][]int
	for _, item := range strings.Split(text, " ") {
		found := form.FindStringSubmatch(item)
		if found == nil || len(rows) == 8 {
			return nil, false
		}
		var row []int
		for _, number := range found[1:] {
			n, err := strconv.ParseInt(number, 10, 64)
			if err != nil {
				return nil, false
			}
			row = append(row, int(n))
		}
		if row[0] < 0 || row[0] > 99999 || len(rows) > 0 && rows[len(rows)-1][0] >= row[0] {
			return nil, false
		}
		rows = append(rows, row)
	}
	return rows, true
}

func plainSamples(text string) ([]impl.Sample, bool) {
	rows, ok := plainNumbers(sampleForm, text)
	var list []impl.Sample
	for _, row := range rows {
		if row[1] < -1000000 || row[1] > 1000000 {
			return nil, false
		}
		list = append(list, impl.Sample{T: row[0], V: row[1]})
	}
	return list, ok
}

func plainBuckets(text string) ([]impl.Bucket, bool) {
	rows, ok := plainNumbers(bucketForm, text)
	var list []impl.Bucket
	for _, row := range rows {
		a := impl.Agg{Count: row[1], Sum: row[2], Min: row[3], Max: row[4], First: row[5], Last: row[6]}
		if a.Count < 1 || a.Count > 100000 || a.Min < -1000000 || a.Max > 1000000 || a.Min > a.Max ||
			a.First < a.Min || a.First > a.Max || a.Last < a.Min || a.Last > a.Max || a.Sum < a.Count*a.Min || a.Sum > a.Count*a.Max {
			return nil, false
		}
		list = append(list, impl.Bucket{From: row[0], Agg: a})
	}
	return list, ok
}

func samplesWritten(list []impl.Sample) string {
	var items []string
	for _, s := range list {
		items = append(items, fmt.Sprintf("%d=%d", s.T, s.V))
	}
	return strings.Join(items, " ")
}

func bucketsWritten(list []impl.Bucket) string {
	var items []string
	for _, b := range list {
		a := b.Agg
		items = append(items, fmt.Sprintf("%d:%d,%d,%d,%d,%d,%d", b.From, a.Count, a.Sum, a.Min, a.Max, a.First, a.Last))
	}
	return strings.Join(items, " ")
}

// mustReadBack checks that a right list is written as it ought to be, and read back from that.
func (k listKind[T]) mustReadBack(t *testing.T, list []T, text string) {
	t.Helper()
	got, code := k.write(list)
	if got != text || code != impl.OK {
		t.Errorf("%s %v: text %q, code %d, want %q", k.name, list, got, code, text)
	}
	back, code := k.read(text)
	if !slices.Equal(back, list) || code != impl.OK {
		t.Errorf("%s read from %q: %v, code %d, want %v", k.name, text, back, code, list)
	}
}

func (k listKind[T]) mustRefuse(t *testing.T, text string, want int) {
	t.Helper()
	if list, code := k.read(text); len(list) != 0 || code != want {
		t.Errorf("%s read from %.80q of %d bytes: %v, code %d, want none, code %d", k.name, text, len(text), list, code, want)
	}
}

func (k listKind[T]) mustNotWrite(t *testing.T, list []T, want int) {
	t.Helper()
	if text, code := k.write(list); text != "" || code != want {
		t.Errorf("%d %s %.80s: text %q, code %d, want none, code %d", len(list), k.name, fmt.Sprint(list), text, code, want)
	}
}

// agrees checks a text of any kind against the document, and that what is read is written the same again.
func (k listKind[T]) agrees(t *testing.T, text string) {
	t.Helper()
	want, ok := k.plain(text)
	if !ok {
		k.mustRefuse(t, text, impl.ErrForm)
		return
	}
	k.mustReadBack(t, want, text)
}

// rightBatches are lists of samples that have a text, of nothing and of MaxBatch among them.
func rightBatches() [][]impl.Sample {
	const top = impl.MaxValue
	return append(mixedLists(),
		[]impl.Sample{},
		samplesOf(0, 1, 0, 0, 0, 0, 0, 0, 0, 0),
		samplesOf(impl.MaxTime-impl.MaxBatch, 1, -top, -top, -top, -top, -top, -top, -top, -top),
		samplesOf(1, 14285, top, -top, top-1, 1-top, 1, -1, 0, 10),
		samplesOf(impl.MaxTime-1, 1, top),
		samplesOf(impl.MaxTime-1, 1, -top),
	)
}

// bucketsOf has the aggregates at beginnings that rise by step from first on.
func bucketsOf(first, step int, aggs ...impl.Agg) []impl.Bucket {
	list := make([]impl.Bucket, len(aggs))
	for i, a := range aggs {
		list[i] = impl.Bucket{From: first + i*step, Agg: a}
	}
	return list
}

// filledAggs are right aggregates that are not of nothing.
func filledAggs() []impl.Agg {
	return slices.DeleteFunc(rightAggs(), func(a impl.Agg) bool { return a.Count == 0 })
}

// rightBucketLists are lists of buckets that have a text, of nothing and of MaxBatch among them.
func rightBucketLists() [][]impl.Bucket {
	aggs := filledAggs()
	big := impl.Agg{Count: impl.MaxTime, Sum: -impl.MaxTime * impl.MaxValue, Min: -impl.MaxValue, Max: impl.MaxValue, First: -impl.MaxValue, Last: -impl.MaxValue}
	lists := [][]impl.Bucket{
		nil, {},
		bucketsOf(0, 1, aggs[:impl.MaxBatch]...),
		bucketsOf(impl.MaxTime-impl.MaxBatch, 1, aggs[len(aggs)-impl.MaxBatch:]...),
		bucketsOf(0, 14285, slices.Repeat([]impl.Agg{big}, impl.MaxBatch)...),
		bucketsOf(5, 5, aggs[0], aggs[5], aggs[7]),
	}
	for _, a := range aggs {
		lists = append(lists, bucketsOf(0, 1, a), bucketsOf(impl.MaxTime-1, 1, a))
	}
	return lists
}

// wrongBucketLists are one beyond a bound each, or far off; none is longer than MaxBatch.
func wrongBucketLists() [][]impl.Bucket {
	one := impl.Agg{Count: 1, Sum: 7, Min: 7, Max: 7, First: 7, Last: 7}
	lists := [][]impl.Bucket{
		{{From: -1, Agg: one}},
		{{From: impl.MaxTime, Agg: one}},
		{{From: -1 << 63, Agg: one}},
		{{From: 1<<63 - 1, Agg: one}},
		{{From: 0, Agg: one}, {From: impl.MaxTime, Agg: one}},
		bucketsOf(5, 0, one, one),
		bucketsOf(5, -1, one, one),
		bucketsOf(3, -1, one, one, one, one),
		{{From: 1, Agg: one}, {From: 2, Agg: one}, {From: 3, Agg: one}, {From: 3, Agg: one}},
		{{From: 1, Agg: one}, {From: 2, Agg: one}, {From: 3, Agg: one}, {From: 2, Agg: one}},
		{{}}, {{From: 5}}, {{From: 5}, {From: 6, Agg: one}}, {{From: 5, Agg: one}, {From: 6}},
		{{From: 5, Agg: one}, {From: 6}, {From: 7, Agg: one}},
	}
	for _, bad := range wrongAggs() {
		lists = append(lists, bucketsOf(4, 1, bad), bucketsOf(4, 1, one, bad), bucketsOf(4, 1, bad, one))
	}
	return lists
}
