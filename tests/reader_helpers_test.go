package tests

import (
	"fmt"
	"regexp"
	"slices"
	"strconv"
	"strings"
	"testing"

	"loop.example/g00601/impl"
)

var pinForm = regexp.MustCompile(`\A` + numberForm + `\z`)

func pinName(id int) string { return fmt.Sprintf("pin/%d", id) }

// plainPins are the keys that the document tells of the pins of a store.
func plainPins(x impl.Store, now int) []string {
	var keys []string
	for _, o := range x.Objects {
		until, err := strconv.ParseInt(o.Data, 10, 64)
		number := err == nil && pinForm.MatchString(o.Data)
		if strings.HasPrefix(o.Key, "pin/") && (!number || int(until)+6 >= now) {
			keys = append(keys, o.Key)
		}
	}
	return keys
}

func wantPins(t *testing.T, what string, x impl.Store, now int, want ...string) {
	t.Helper()
	if got, code := impl.PinsAt(x, now); code != impl.OK || !slices.Equal(got, want) || !slices.Equal(plainPins(x, now), want) {
		t.Errorf("%s: PinsAt %d = %q, code %d, the plain ones %q, want %q", what, now, got, code, plainPins(x, now), want)
	}
}

// plainReader is what the document says of readers.
func plainReader(r impl.Reader) bool {
	switch {
	case r.Id < 0 || r.Id > 9 || r.Phase < 0 || r.Phase > 4 || r.Tier < 0 || r.Tier > 2:
		return false
	case r.From < 0 || r.From > r.To || r.To > 100000 || r.Until < 0 || r.Until > 200000 || r.Code < 0 || r.Code > 19:
		return false
	case len(r.Left) > 300:
		return false
	}
	for _, e := range r.Left {
		if e.Tier != r.Tier || !plainEntry(e.Tier, e.From, e.To, e.Key) {
			return false
		}
	}
	return impl.AggOK(r.Got) && r.Got.Count <= 1000
}

// alikeReaders is what SameReader ought to tell, and does not lean on it.
func alikeReaders(a, b impl.Reader) bool {
	return a.Id == b.Id && a.Phase == b.Phase && a.Tier == b.Tier && a.From == b.From && a.To == b.To && a.Until == b.Until &&
		a.Code == b.Code && a.Got == b.Got && slices.Equal(a.Left, b.Left)
}

func copiedReader(r impl.Reader) impl.Reader {
	r.Left = slices.Clone(r.Left)
	return r
}

// readerWith is a copy of r with something done to it.
func readerWith(r impl.Reader, change func(r *impl.Reader)) impl.Reader {
	c := copiedReader(r)
	change(&c)
	return c
}

// asking is a reader that has just been asked.
func asking(id, tier, from, to int) impl.Reader {
	return impl.Reader{Id: id, Phase: 1, Tier: tier, From: from, To: to}
}

// ended is a reader whose query ended with that code; its pin is still to be taken away.
func ended(r impl.Reader, code int) impl.Reader {
	r.Phase, r.Code, r.Left = 4, code, nil
	return r
}

// plainQuery is what the document says of a step of a right reader over a right store at a right now; it does not lean on the program.
func plainQuery(x impl.Store, r impl.Reader, now int) (impl.Store, impl.Reader, bool, int) {
	r = copiedReader(r)
	y, code := x, impl.OK
	switch r.Phase {
	case 0:
		return x, r, false, impl.ErrIdle
	case 1:
		if y, code = plainPut(x, pinName(r.Id), strconv.Itoa(now+30)); code == impl.OK {
			r.Until, r.Phase = now+30, 2
		}
	case 2:
		var cover []impl.Entry
		if cover, code = plainCover(plainState(x), r.Tier, span{r.From, r.To}); code == impl.OK {
			r.Left, r.Phase = cover, 3
		}
	case 3:
		if len(r.Left) == 0 {
			return x, ended(r, impl.OK), false, impl.OK
		}
		r, code = plainFetched(x, r, now)
	case 4:
		r.Phase = 0
		return without(x, pinName(r.Id)), r, true, impl.OK
	}
	if code != impl.OK {
		r = ended(r, code)
	}
	return y, r, false, impl.OK
}

// plainFetched is a reader that has something left, and has read the first of it.
func plainFetched(x impl.Store, r impl.Reader, now int) (impl.Reader, int) {
	if now > r.Until-3 {
		return r, impl.ErrLate
	}
	data, there := objectOf(x, r.Left[0].Key)
	if !there {
		return r, impl.ErrNone
	}
	more, ok := plainWindow(r.Tier, data, span{r.From, r.To})
	if !ok {
		return r, impl.ErrDamaged
	}
	all := plainMerged(r.Got, more)
	if all.Count > 1000 {
		return r, impl.ErrMany
	}
	r.Got, r.Left = all, r.Left[1:]
	return r, impl.OK
}

// wantQuery checks a step of a right reader over a right store against the document, and that it changes one object at most; it answers what it led to.
func wantQuery(t *testing.T, what string, x impl.Store, r impl.Reader, now int) (impl.Store, impl.Reader, bool, int) {
	t.Helper()
	y, v, over, code := impl.StepReader(x, r, now)
	store, reader, wantOver, want := plainQuery(x, r, now)
	if code != want || over != wantOver || !alikeReaders(v, reader) || !alike(y, store) {
		t.Errorf("%s: step of %.300s at %d: code %d, over %v, reader %.300s, want code %d, over %v, reader %.300s; store as wanted: %v, touched %v", what, fmt.Sprint(r), now, code, over, fmt.Sprint(v), want, wantOver, fmt.Sprint(reader), alike(y, store), touched(x, y))
	}
	keys := touched(x, y)
	if len(keys) > 1 || len(keys) == 1 && keys[0] != pinName(r.Id) {
		t.Errorf("%s: step of %.300s at %d changes %v", what, fmt.Sprint(r), now, keys)
	}
	if wrong := v.Phase == 4 && v.Code != impl.OK && r.Phase != 4; (wrong || code != impl.OK) && !alike(x, y) {
		t.Errorf("%s: step of %.300s at %d: code %d, reader %.300s, but the store is changed: %v", what, fmt.Sprint(r), now, code, fmt.Sprint(v), keys)
	}
	if !impl.StoreOK(y) || !impl.ReaderOK(v) || !plainReader(v) || v.Id != r.Id {
		t.Errorf("%s: step of %.300s at %d, code %d: the store is right: %v, the reader: %.300s", what, fmt.Sprint(r), now, code, impl.StoreOK(y), fmt.Sprint(v))
	}
	return y, v, over, code
}

// reads checks that a step leads to that reader and that store, without a code and without being over.
func reads(t *testing.T, what string, x impl.Store, r impl.Reader, now int, store impl.Store, reader impl.Reader) {
	t.Helper()
	y, v, over, code := wantQuery(t, what, x, r, now)
	if code != impl.OK || over || !alikeReaders(v, reader) || !alike(y, store) {
		t.Errorf("%s: step of %v at %d: code %d, over %v, reader %v, want %v; store as wanted: %v, touched %v", what, r, now, code, over, v, reader, alike(y, store), touched(x, y))
	}
}

// ends checks that a query ends with that Code, with nothing left, with what it had got ahead of that, and that the store is as it was.
func ends(t *testing.T, what string, x impl.Store, r impl.Reader, now, want int) {
	t.Helper()
	reads(t, what, x, r, now, x, ended(r, want))
}

// unpins checks that a query is over with that store, and that the reader is idle then; all else of it stays.
func unpins(t *testing.T, what string, x impl.Store, r impl.Reader, now int, store impl.Store) {
	t.Helper()
	y, v, over, code := wantQuery(t, what, x, r, now)
	if code != impl.OK || !over || !alikeReaders(v, inReading(r, 0)) || !alike(y, store) {
		t.Errorf("%s: step of %v at %d: code %d, over %v, reader %v; store as wanted: %v, touched %v", what, r, now, code, over, v, alike(y, store), touched(x, y))
	}
}

// notRead checks that a step has that code, and that all else in its answer is zero.
func notRead(t *testing.T, what string, x impl.Store, r impl.Reader, now, want int) {
	t.Helper()
	y, v, over, code := impl.StepReader(x, r, now)
	if code != want || over || !alikeReaders(v, impl.Reader{}) || !alike(y, impl.Store{}) {
		t.Errorf("%s: step of %.200s at %d: code %d, want %d; over %v, reader %.200s, store %.200s, want all zero", what, fmt.Sprint(r), now, code, want, over, fmt.Sprint(v), fmt.Sprint(y))
	}
}

func inReading(r impl.Reader, phase int) impl.Reader {
	return readerWith(r, func(r *impl.Reader) { r.Phase = phase })
}

// plainAsked is what the document says of a reader that is asked.
func plainAsked(r impl.Reader, tier int, s span) (impl.Reader, int) {
	switch {
	case !plainReader(r):
		return impl.Reader{}, impl.ErrBad
	case tier < 0 || tier > 2 || s.from < 0 || s.from > s.to || s.to > 100000:
		return impl.Reader{}, impl.ErrRange
	case r.Phase != 0:
		return r, impl.ErrThere
	}
	return asking(r.Id, tier, s.from, s.to), impl.OK
}

// wantAsked checks a reader that is asked against the document, and answers the reader and the code.
func wantAsked(t *testing.T, what string, r impl.Reader, tier int, s span) (impl.Reader, int) {
	t.Helper()
	v, code := impl.AskReader(r, tier, s.from, s.to)
	reader, want := plainAsked(r, tier, s)
	if code != want || !alikeReaders(v, reader) {
		t.Errorf("%s: AskReader of %.200s, tier %d, %v: code %d, reader %.200s, want code %d, %.200s", what, fmt.Sprint(r), tier, s, code, fmt.Sprint(v), want, fmt.Sprint(reader))
	}
	if code == impl.OK && !impl.ReaderOK(v) {
		t.Errorf("%s: AskReader of %v: %v is not right", what, r, v)
	}
	return v, code
}
