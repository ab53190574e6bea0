package tests

import (
	"fmt"
	"slices"
	"testing"

	"loop.example/g00601/impl"
)

// actors are of one kind, workers for instance, and step over stores by clocks.
type actors[A any] struct {
	list   []A
	stores []impl.Store
	nows   []int
	// guard is an actor in memory of its own, with strange things behind the end of its list; untouched tells whether such a one is as it was made; fill writes strange things over all of that memory.
	guard     func(A) A
	untouched func(guarded, made A) bool
	fill      func(A)
	// said is what a step leads to, and all that the kind's calls answer, in words.
	said func(x impl.Store, a A, now int) (impl.Store, A, string)
}

func (k actors[A]) each(do func(what string, x impl.Store, a A, now int)) {
	for i, x := range k.stores {
		for n, a := range k.list {
			for _, now := range k.nows {
				do(fmt.Sprintf("actor %d over store %d at %d", n, i, now), x, a, now)
			}
		}
	}
}

// wantUnchanged checks that no step changes its arguments, and that arguments and answers share no memory.
func (k actors[A]) wantUnchanged(t *testing.T) {
	t.Helper()
	k.each(func(what string, x impl.Store, a A, now int) {
		g, h := guarded(x), k.guard(a)
		y, b, said := k.said(g, h, now)
		if !untouched(g, x) || !k.untouched(h, a) {
			t.Errorf("%s: they are changed", what)
		}
		// Nor does what is done to the answer, nor the other way round.
		before := fmt.Sprint(y, b)
		fill(g.Objects[:cap(g.Objects)])
		k.fill(h)
		if fmt.Sprint(y, b) != before {
			t.Errorf("%s: its arguments' memory is answered", what)
		}
		g, h = guarded(x), k.guard(a)
		y, b, again := k.said(g, h, now)
		fill(y.Objects[:cap(y.Objects)])
		k.fill(b)
		if !untouched(g, x) || !k.untouched(h, a) || again != said {
			t.Errorf("%s: its arguments' memory is lent", what)
		}
	})
}

// wantAlike checks that alike arguments have alike answers, whatever was called ahead and whatever capacity they have.
func (k actors[A]) wantAlike(t *testing.T) {
	t.Helper()
	var first []string
	k.each(func(_ string, x impl.Store, a A, now int) {
		_, _, said := k.said(x, a, now)
		first = append(first, said)
	})
	// Backwards, so that each call has others ahead of it.
	at := len(first)
	for _, x := range slices.Backward(k.stores) {
		for _, a := range slices.Backward(k.list) {
			for _, now := range slices.Backward(k.nows) {
				at--
				if _, _, said := k.said(guarded(x), k.guard(a), now); said != first[at] {
					t.Errorf("a step of %.200s at %d hangs on what was called ahead", fmt.Sprint(a), now)
				}
			}
		}
	}
}

// wantApart checks that two steps of one actor over one store each have a store and an actor of their own.
func (k actors[A]) wantApart(t *testing.T) {
	t.Helper()
	k.each(func(what string, x impl.Store, a A, now int) {
		y, b, said := k.said(x, a, now)
		z, c, again := k.said(x, a, now)
		before := fmt.Sprint(z, c)
		fill(y.Objects[:cap(y.Objects)])
		k.fill(b)
		if fmt.Sprint(z, c) != before || said != again {
			t.Errorf("%s: two steps share memory", what)
		}
	})
}

// wantSameOfEmpty checks that an actor whose list is nil steps like one whose list is empty, and that a store without objects may have either, too.
func (k actors[A]) wantSameOfEmpty(t *testing.T, none, empty A) {
	t.Helper()
	stores := append(slices.Clone(k.stores), impl.Store{Next: 1}, impl.Store{Next: lastNext}, impl.Store{})
	for _, x := range stores {
		for _, now := range k.nows {
			_, _, one := k.said(x, none, now)
			other := x
			if len(x.Objects) == 0 {
				other.Objects = []impl.Object{}
			}
			for _, a := range []A{none, empty} {
				if _, _, said := k.said(other, a, now); said != one {
					t.Errorf("at %d: %.200s of nil, %.200s of an empty list", now, one, said)
				}
			}
		}
	}
}
