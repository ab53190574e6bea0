package tests

import (
	"math/rand"
	"testing"

	"loop.example/g00601/impl"
)

func TestP4SamplesAreReadBack(t *testing.T) {
	k := sampleKind()
	for _, list := range rightBatches() {
		k.mustReadBack(t, list, samplesWritten(list))
	}
	r := rand.New(rand.NewSource(41))
	for range 2000 {
		list := randomSamples(r, r.Intn(impl.MaxBatch+1), r.Intn(impl.MaxValue+1))
		k.mustReadBack(t, list, samplesWritten(list))
	}
}

func randomBuckets(r *rand.Rand) []impl.Bucket {
	list := make([]impl.Bucket, r.Intn(impl.MaxBatch+1))
	from := r.Intn(30)
	for i := range list {
		list[i] = impl.Bucket{From: from, Agg: foldOf(randomSamples(r, 1+r.Intn(20), r.Intn(impl.MaxValue+1)))}
		from += 1 + r.Intn(12000)
	}
	return list
}

func TestP4BucketsAreReadBack(t *testing.T) {
	k := bucketKind()
	for _, list := range rightBucketLists() {
		if !impl.BucketsOK(list) {
			t.Errorf("buckets %v are right", list)
		}
		k.mustReadBack(t, list, bucketsWritten(list))
	}
	r := rand.New(rand.NewSource(42))
	for range 2000 {
		list := randomBuckets(r)
		if !impl.BucketsOK(list) {
			t.Errorf("buckets %v are right", list)
		}
		k.mustReadBack(t, list, bucketsWritten(list))
	}
}

func TestP4TextsAreAsTheDocumentShowsThem(t *testing.T) {
	sampleKind().mustReadBack(t, nil, "")
	sampleKind().mustReadBack(t, []impl.Sample{{T: 0, V: 0}}, "0=0")
	sampleKind().mustReadBack(t, []impl.Sample{{T: 1, V: 5}, {T: 40, V: -2}}, "1=5 40=-2")
	a := impl.Agg{Count: 3, Sum: 11, Min: -2, Max: 8, First: 5, Last: 8}
	bucketKind().mustReadBack(t, nil, "")
	bucketKind().mustReadBack(t, []impl.Bucket{{From: 0, Agg: impl.Agg{Count: 1}}}, "0:1,0,0,0,0,0")
	bucketKind().mustReadBack(t, []impl.Bucket{{From: 5, Agg: a}, {From: 40, Agg: a}}, "5:3,11,-2,8,5,8 40:3,11,-2,8,5,8")
}

// A list that has a text has one that fits an object.
func TestP4TextsFitAnObject(t *testing.T) {
	for _, list := range rightBatches() {
		if text, code := impl.SamplesText(list); code != impl.OK || len(text) > impl.MaxData {
			t.Errorf("samples of %d bytes, code %d", len(text), code)
		}
	}
	for _, list := range rightBucketLists() {
		if text, code := impl.BucketsText(list); code != impl.OK || len(text) > impl.MaxData {
			t.Errorf("buckets of %d bytes, code %d", len(text), code)
		}
	}
}
