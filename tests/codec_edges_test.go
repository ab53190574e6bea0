package tests

import (
	"slices"
	"testing"

	"loop.example/g00601/impl"
)

func TestP4ListsOfMoreThanABatch(t *testing.T) {
	k := sampleKind()
	for _, n := range []int{impl.MaxBatch + 1, impl.MaxBatch + 2, impl.MaxList - 1, impl.MaxList} {
		k.mustNotWrite(t, steady(n, 1), impl.ErrMany)
		k.mustRefuse(t, samplesWritten(steady(n, 1)), impl.ErrForm)
	}
	one := impl.Agg{Count: 1}
	for _, n := range []int{impl.MaxBatch + 1, impl.MaxBatch + 2, impl.MaxList - 1, impl.MaxList} {
		list := bucketsOf(0, 1, slices.Repeat([]impl.Agg{one}, n)...)
		if impl.BucketsOK(list) {
			t.Errorf("%d buckets are not right", n)
		}
		bucketKind().mustNotWrite(t, list, impl.ErrBad)
		// The text of MaxList buckets is longer than MaxText.
		bucketKind().mustRefuse(t, bucketsWritten(list[:min(n, impl.MaxList/2)]), impl.ErrForm)
	}
}

func TestP4ListsThatAreTooLong(t *testing.T) {
	for _, n := range []int{impl.MaxList + 1, 3 * impl.MaxList} {
		sampleKind().mustNotWrite(t, steady(n, 1), impl.ErrLong)
		list := bucketsOf(0, 1, slices.Repeat([]impl.Agg{{Count: 1}}, n)...)
		bucketKind().mustNotWrite(t, list, impl.ErrLong)
		if impl.BucketsOK(list) || impl.SamplesOK(steady(n, 1)) {
			t.Errorf("lists of %d are not right", n)
		}
	}
	// ErrLong comes ahead of what else is wrong with a list.
	for _, bad := range wrongLists() {
		sampleKind().mustNotWrite(t, slices.Concat(bad, steady(impl.MaxList, 1)), impl.ErrLong)
	}
	for _, bad := range wrongBucketLists() {
		bucketKind().mustNotWrite(t, slices.Concat(bad, make([]impl.Bucket, impl.MaxList)), impl.ErrLong)
	}
}

func TestP4ListsThatAreNotRight(t *testing.T) {
	for _, bad := range wrongLists() {
		sampleKind().mustNotWrite(t, bad, impl.ErrBad)
		sampleKind().mustRefuse(t, samplesWritten(bad), impl.ErrForm)
	}
	for _, bad := range wrongBucketLists() {
		if impl.BucketsOK(bad) {
			t.Errorf("buckets %v are not right", bad)
		}
		bucketKind().mustNotWrite(t, bad, impl.ErrBad)
		bucketKind().mustRefuse(t, bucketsWritten(bad), impl.ErrForm)
	}
}

// A fault is looked for over the whole of a list ahead of the next one: what is wrong behind a batch's end comes ahead of ErrMany.
func TestP4WhatIsNotRightComesAheadOfTooMany(t *testing.T) {
	for _, n := range []int{impl.MaxBatch, impl.MaxBatch + 1, impl.MaxList - 1} {
		for _, last := range []impl.Sample{{T: n - 1}, {T: -1}, {T: impl.MaxTime}, {T: n, V: impl.MaxValue + 1}, {T: n, V: -impl.MaxValue - 1}} {
			sampleKind().mustNotWrite(t, append(steady(n, 1), last), impl.ErrBad)
		}
		sampleKind().mustNotWrite(t, append([]impl.Sample{{T: 0, V: impl.MaxValue + 1}}, samplesOf(1, 1, make([]int, n)...)...), impl.ErrBad)
	}
}

func TestP4NumbersAtTheirBounds(t *testing.T) {
	for text, ok := range map[string]bool{
		"0=0": true, "99999=0": true, "100000=0": false, "-1=0": false,
		"0=1000000": true, "0=-1000000": true, "0=1000001": false, "0=-1000001": false,
		"99999=1000000": true, "0=999999999999999999": false, "999999999999999999=0": false,
	} {
		if list, code := impl.ReadSamples(text); ok != (code == impl.OK) || ok != (len(list) == 1) {
			t.Errorf("ReadSamples(%q) = %v, code %d", text, list, code)
		}
		sampleKind().agrees(t, text)
	}
	for text, ok := range map[string]bool{
		"0:1,0,0,0,0,0": true, "99999:1,0,0,0,0,0": true, "100000:1,0,0,0,0,0": false, "-1:1,0,0,0,0,0": false,
		"5:100000,0,0,0,0,0": true, "5:100001,0,0,0,0,0": false, "5:0,0,0,0,0,0": false, "5:-1,0,0,0,0,0": false,
		"5:2,2000000,1000000,1000000,1000000,1000000": true, "5:2,2000002,1000001,1000001,1000001,1000001": false,
		"5:2,-2000000,-1000000,-1000000,-1000000,-1000000": true, "5:2,-2000002,-1000001,-1000001,-1000001,-1000001": false,
		"5:3,24,-2,8,-2,8": true, "5:3,25,-2,8,-2,8": false, "5:3,-6,-2,8,8,-2": true, "5:3,-7,-2,8,8,-2": false,
		"5:3,11,-2,8,9,8": false, "5:3,11,-2,8,5,-3": false,
	} {
		if list, code := impl.ReadBuckets(text); ok != (code == impl.OK) || ok != (len(list) == 1) {
			t.Errorf("ReadBuckets(%q) = %v, code %d", text, list, code)
		}
		bucketKind().agrees(t, text)
	}
}
