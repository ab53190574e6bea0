package tests

import (
	"fmt"
	"slices"
	"testing"

	"loop.example/g00601/impl"
)

var strangeSample = impl.Sample{T: -77, V: 1 << 40}

// guardedList is the list in memory of its own, with strange elements behind its end.
func guardedList[T any](list []T, strange T) []T {
	room := slices.Repeat([]T{strange}, len(list)+spare)
	copy(room, list)
	return room[:len(list)]
}

// untouchedList tells whether a guarded list is as it was made, behind its end too.
func untouchedList[T comparable](g, list []T, strange T) bool {
	return slices.Equal(g[:cap(g)], append(slices.Clone(list), slices.Repeat([]T{strange}, spare)...))
}

// aggAnswers is what the calls of aggregates say of a list, of its aggregate and of all that is handed in besides.
func aggAnswers(list []impl.Sample) string {
	a, code := impl.AggOf(list)
	said := fmt.Sprintln(impl.SamplesOK(list), a, code)
	for _, b := range append(rightAggs(), wrongAggs()...) {
		m, code := impl.MergeAgg(a, b)
		mean, rest, meanCode := impl.MeanOf(b)
		text, textCode := impl.AggText(b)
		back, backCode := impl.ReadAgg(text)
		said += fmt.Sprintln(impl.AggOK(b), m, code, mean, rest, meanCode, text, textCode, back, backCode)
	}
	return said
}

func pureLists() [][]impl.Sample {
	lists := append(mixedLists(), wrongLists()...)
	return append(lists, steady(impl.MaxList, 3), steady(impl.MaxList+1, 3))
}

func TestP1NoCallChangesItsSamples(t *testing.T) {
	for _, list := range pureLists() {
		g := guardedList(list, strangeSample)
		aggAnswers(g)
		if !untouchedList(g, list, strangeSample) {
			t.Errorf("samples %.60s are changed", fmt.Sprint(list))
		}
	}
}

func TestP1AlikeSamplesHaveAlikeAnswers(t *testing.T) {
	var first []string
	lists := pureLists()
	for _, list := range lists {
		first = append(first, aggAnswers(list))
	}
	for i, list := range slices.Backward(lists) {
		if aggAnswers(guardedList(list, strangeSample)) != first[i] {
			t.Errorf("samples %.60s have two answers", fmt.Sprint(list))
		}
	}
	if aggAnswers(nil) != aggAnswers([]impl.Sample{}) {
		t.Error("nil and an empty list have two answers")
	}
}
