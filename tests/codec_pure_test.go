package tests

import (
	"fmt"
	"slices"
	"testing"

	"loop.example/g00601/impl"
)

var strangeBucket = impl.Bucket{From: -77, Agg: impl.Agg{Count: -1, Sum: 1 << 40}}

func samplesSaid(list []impl.Sample) string {
	text, code := impl.SamplesText(list)
	return fmt.Sprintf("%q %d", text, code)
}

func bucketsSaid(list []impl.Bucket) string {
	text, code := impl.BucketsText(list)
	return fmt.Sprintf("%v %q %d", impl.BucketsOK(list), text, code)
}

func textSaid(text string) string {
	samples, samplesCode := impl.ReadSamples(text)
	buckets, bucketsCode := impl.ReadBuckets(text)
	tier, n, who, code := impl.ReadDataKey(text)
	return fmt.Sprintln(samples, samplesCode, buckets, bucketsCode, tier, n, who, code)
}

func pureBuckets() [][]impl.Bucket {
	many := bucketsOf(0, 1, slices.Repeat([]impl.Agg{{Count: 1}}, impl.MaxList+1)...)
	return append(append(rightBucketLists(), wrongBucketLists()...), many[:impl.MaxBatch+1], many[:impl.MaxList], many)
}

func pureBatches() [][]impl.Sample {
	return append(pureLists(), append(rightBatches(), steady(impl.MaxBatch+1, 1))...)
}

func TestP1NoTextChangesItsList(t *testing.T) {
	for _, list := range pureBatches() {
		g := guardedList(list, strangeSample)
		if samplesSaid(g); !untouchedList(g, list, strangeSample) {
			t.Errorf("samples %.60s are changed", fmt.Sprint(list))
		}
	}
	for _, list := range pureBuckets() {
		g := guardedList(list, strangeBucket)
		if bucketsSaid(g); !untouchedList(g, list, strangeBucket) {
			t.Errorf("buckets %.60s are changed", fmt.Sprint(list))
		}
	}
}

func TestP1AlikeListsHaveAlikeTexts(t *testing.T) {
	var first []string
	batches, buckets := pureBatches(), pureBuckets()
	for _, list := range batches {
		first = append(first, samplesSaid(list))
	}
	for _, list := range buckets {
		first = append(first, bucketsSaid(list))
	}
	// Backwards, so that each call has others ahead of it, and with another capacity.
	for i, list := range slices.Backward(buckets) {
		if bucketsSaid(guardedList(list, strangeBucket)) != first[len(batches)+i] {
			t.Errorf("buckets %.60s have two texts", fmt.Sprint(list))
		}
	}
	for i, list := range slices.Backward(batches) {
		if samplesSaid(guardedList(list, strangeSample)) != first[i] {
			t.Errorf("samples %.60s have two texts", fmt.Sprint(list))
		}
	}
	if samplesSaid(nil) != samplesSaid([]impl.Sample{}) || bucketsSaid(nil) != bucketsSaid([]impl.Bucket{}) {
		t.Error("nil and an empty list have two texts")
	}
}

func pureTexts() []string {
	texts := append(wrongNumbers(), longTexts(impl.MaxText)...)
	texts = append(texts, longTexts(impl.MaxText+1)...)
	texts = append(texts, "raw/000012-000003", "t2/999999-999999", "raw/000012-00003")
	for _, list := range rightBatches() {
		texts = append(texts, samplesWritten(list))
	}
	for _, list := range rightBucketLists() {
		texts = append(texts, bucketsWritten(list))
	}
	return texts
}

func TestP1AlikeTextsHaveAlikeAnswers(t *testing.T) {
	var first []string
	texts := pureTexts()
	for _, text := range texts {
		first = append(first, textSaid(text))
	}
	for i, text := range slices.Backward(texts) {
		if textSaid(string([]byte(text))) != first[i] {
			t.Errorf("text %.60q has two answers", text)
		}
	}
}

func TestP1ListsThatAreReadStayApart(t *testing.T) {
	const sampleText, bucketText = "1=5 40=-2", "5:1,7,7,7,7,7 15:1,7,7,7,7,7"
	samples, _ := impl.ReadSamples(sampleText)
	buckets, _ := impl.ReadBuckets(bucketText)
	otherSamples, _ := impl.ReadSamples(sampleText)
	otherBuckets, _ := impl.ReadBuckets(bucketText)
	for i := range samples[:cap(samples)] {
		samples[:cap(samples)][i] = strangeSample
	}
	for i := range buckets[:cap(buckets)] {
		buckets[:cap(buckets)][i] = strangeBucket
	}
	if samplesWritten(otherSamples) != sampleText || bucketsWritten(otherBuckets) != bucketText {
		t.Error("two answers share memory", otherSamples, otherBuckets)
	}
}
