package tests

import (
	"fmt"
	"slices"
	"testing"

	"loop.example/g00601/impl"
)

func pureSpans() []span {
	return append(wrongSpans(), span{0, impl.MaxTime}, span{0, 0}, span{0, 20}, span{5, 10}, span{50, 60}, span{impl.MaxTime, impl.MaxTime})
}

func downsampleSaid(list []impl.Sample) string {
	var said string
	for _, s := range pureSpans() {
		got, code := impl.Downsample(list, s.from, s.to)
		said += fmt.Sprintln(got, code)
	}
	return said
}

func rollUpSaid(list []impl.Bucket) string {
	var said string
	for _, s := range pureSpans() {
		got, code := impl.RollUp(list, s.from, s.to)
		a, foldCode := impl.FoldRange(list, s.from, s.to)
		said += fmt.Sprintln(got, code, a, foldCode)
	}
	return said
}

func tiersSaid() string {
	var said string
	for _, n := range append(wrongTiers(), 0, 1, 2) {
		width, widthCode := impl.WidthOf(n)
		keep, keepCode := impl.KeepOf(n)
		from, code := impl.AlignDown(39, n)
		other, otherCode := impl.AlignDown(n, 1)
		said += fmt.Sprintln(width, widthCode, keep, keepCode, from, code, other, otherCode)
	}
	return said
}

func TestP1NoTierChangesItsList(t *testing.T) {
	for _, list := range append(pureLists(), tierLists()...) {
		g := guardedList(list, strangeSample)
		if downsampleSaid(g); !untouchedList(g, list, strangeSample) {
			t.Errorf("samples %.60s are changed", fmt.Sprint(list))
		}
	}
	for _, list := range pureBuckets() {
		g := guardedList(list, strangeBucket)
		if rollUpSaid(g); !untouchedList(g, list, strangeBucket) {
			t.Errorf("buckets %.60s are changed", fmt.Sprint(list))
		}
	}
}

func TestP1AlikeListsAreRolledUpAlike(t *testing.T) {
	var first []string
	samples, buckets := append(pureLists(), tierLists()...), pureBuckets()
	tiers := tiersSaid()
	for _, list := range samples {
		first = append(first, downsampleSaid(list))
	}
	for _, list := range buckets {
		first = append(first, rollUpSaid(list))
	}
	// Backwards, so that each call has others ahead of it, and with another capacity.
	for i, list := range slices.Backward(buckets) {
		if rollUpSaid(guardedList(list, strangeBucket)) != first[len(samples)+i] {
			t.Errorf("buckets %.60s have two answers", fmt.Sprint(list))
		}
	}
	for i, list := range slices.Backward(samples) {
		if downsampleSaid(guardedList(list, strangeSample)) != first[i] {
			t.Errorf("samples %.60s have two answers", fmt.Sprint(list))
		}
	}
	if tiersSaid() != tiers {
		t.Error("tiers have two answers")
	}
	if downsampleSaid(nil) != downsampleSaid([]impl.Sample{}) || rollUpSaid(nil) != rollUpSaid([]impl.Bucket{}) {
		t.Error("nil and an empty list have two answers")
	}
}

func TestP1WhatIsRolledUpStaysApart(t *testing.T) {
	list := bucketsOf(0, 5, impl.Agg{Count: 1}, impl.Agg{Count: 2})
	for _, s := range []span{{0, 5}, {0, 10}} {
		g := guardedList(list, strangeBucket)
		rolled, _ := impl.RollUp(g, s.from, s.to)
		other, _ := impl.RollUp(g, s.from, s.to)
		want := slices.Clone(other)
		for i := range rolled[:cap(rolled)] {
			rolled[:cap(rolled)][i] = strangeBucket
		}
		if !untouchedList(g, list, strangeBucket) || !slices.Equal(other, want) {
			t.Errorf("what is rolled up over %v shares memory", s)
		}
	}
	samples := samplesOf(0, 1, 1, 2)
	made, other := mustDownsample(t, samples, span{0, 5}), mustDownsample(t, samples, span{0, 5})
	made[0] = strangeBucket
	if !slices.Equal(other, madeAtOnce(samples, span{0, 5})) {
		t.Error("two answers share memory", other)
	}
}
