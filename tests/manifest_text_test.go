package tests

import (
	"math/rand"
	"regexp"
	"strconv"
	"strings"
	"testing"

	"loop.example/g00601/impl"
)

// rightRecords are of all kinds and at the bounds of what they have.
func rightRecords() []impl.Record {
	var list []impl.Record
	spans := [][2]int{{0, 1}, {0, 100000}, {99999, 100000}, {7, 12}, {5, 10}, {40, 60}}
	for _, span := range spans {
		list = append(list, adding(span[0], span[1], keyed(0, 12, 3)), adding(span[0], span[1], keyed(0, 0, 999999)))
		for _, token := range []int{1, 2, 5, 999999} {
			for tier := range 3 {
				e := impl.Entry{Tier: tier, From: span[0], To: span[1], Key: keyed(tier, span[1]%1000, token)}
				list = append(list, retiring(token, e))
				if tier > 0 {
					// Whether its key tells where it begins is asked by ApplyRecord alone.
					window := retiring(token, e)
					window.Kind = impl.RePublish
					list = append(list, publishing(token, tier, span[0], span[1]), window)
				}
			}
		}
	}
	for _, token := range []int{1, 2, 9, 10, 999998, 999999} {
		list = append(list, claiming(token))
	}
	for tier := range 3 {
		list = append(list, purging(keyed(tier, 0, 0)), purging(keyed(tier, 999999, 999999)), purging(keyed(tier, 12, 3)))
	}
	return list
}

// wrongRecords have one thing that is one beyond its bound or far off, or one that their kind has no use for.
func wrongRecords() []impl.Record {
	const least, most = -1 << 63, 1<<63 - 1
	bases := []impl.Record{adding(5, 10, keyed(0, 12, 3)), claiming(5), publishing(5, 1, 5, 10), publishing(5, 2, 20, 40), retiring(5, impl.Entry{From: 5, To: 10, Key: keyed(0, 12, 3)}), retiring(5, impl.Entry{Tier: 2, From: 20, To: 40, Key: keyed(2, 20, 3)}), purging(keyed(1, 5, 3))}
	list := []impl.Record{{}, {Kind: 1}, {Kind: 2}, {Kind: 3}, {Kind: 4}, {Kind: 5}, {Kind: 6}}
	wrong := func(r impl.Record) {
		if !plainRecord(r) {
			list = append(list, r)
		}
	}
	for _, base := range bases {
		for _, n := range []int{-1, 0, 1, 3, 5, 6, 7, 10, 999999, 1000000, 100001, least, most, 1 << 32, 1<<32 + 1} {
			for place := range 5 {
				r := base
				*[]*int{&r.Kind, &r.Token, &r.Tier, &r.From, &r.To}[place] = n
				wrong(r)
			}
			r := base
			r.From, r.To = n, n
			wrong(r)
			r.From, r.To = n, n-1
			wrong(r)
		}
		for _, key := range []string{"", "lease", "man/000001", "pin/4", "raw/000001", "raw/12-3", "raw/000012-000003 ", " raw/000012-000003", keyed(0, 1, 2), keyed(1, 1, 2), keyed(2, 1, 2), "t3/000012-000003", text(impl.MaxText), text(impl.MaxText + 1), keyed(0, 12, 3) + text(impl.MaxText)} {
			r := base
			r.Key = key
			wrong(r)
		}
	}
	return list
}

func wantRecordRead(t *testing.T, text string, want impl.Record, wantCode int) {
	t.Helper()
	if r, code := impl.ReadRecord(text); r != want || code != wantCode {
		t.Errorf("ReadRecord(%.60q) of %d bytes = %v, code %d, want %v, code %d", text, len(text), r, code, want, wantCode)
	}
}

func wantRecordReadBack(t *testing.T, r impl.Record) {
	t.Helper()
	if !impl.RecordOK(r) {
		t.Errorf("%v is right", r)
	}
	if text, code := impl.RecordText(r); text != recordWritten(r) || code != impl.OK {
		t.Errorf("RecordText(%v) = %q, code %d", r, text, code)
	}
	wantRecordRead(t, recordWritten(r), r, impl.OK)
}

func TestP7RecordsAreReadBack(t *testing.T) {
	for _, r := range rightRecords() {
		wantRecordReadBack(t, r)
	}
	draw := rand.New(rand.NewSource(7))
	for range 3000 {
		from := draw.Intn(100000)
		e := impl.Entry{Tier: draw.Intn(3), From: from, To: from + 1 + draw.Intn(100000-from)}
		e.Key = keyed(e.Tier, draw.Intn(1000000), draw.Intn(1000000))
		token := 1 + draw.Intn(999999)
		wantRecordReadBack(t, retiring(token, e))
		wantRecordReadBack(t, purging(e.Key))
		wantRecordReadBack(t, claiming(token))
		wantRecordReadBack(t, adding(e.From, e.To, keyed(0, draw.Intn(1000000), draw.Intn(1000000))))
		wantRecordReadBack(t, publishing(token, 1+draw.Intn(2), e.From, e.To))
	}
}

func TestP7RecordsAsTheyAreWritten(t *testing.T) {
	for text, r := range map[string]impl.Record{
		"1,0,0,7,12 raw/000004-000003":         {Kind: impl.ReAdd, From: 7, To: 12, Key: "raw/000004-000003"},
		"2,1,0,0,0 ":                           {Kind: impl.ReClaim, Token: 1},
		"3,3,1,0,5 t1/000000-000003":           {Kind: impl.RePublish, Token: 3, Tier: 1, To: 5, Key: "t1/000000-000003"},
		"4,999999,2,0,100000 t2/000000-000003": {Kind: impl.ReRetire, Token: 999999, Tier: 2, To: 100000, Key: "t2/000000-000003"},
		"4,1,0,99999,100000 raw/999999-999999": {Kind: impl.ReRetire, Token: 1, From: 99999, To: 100000, Key: "raw/999999-999999"},
		"5,0,0,0,0 t1/000005-000002":           {Kind: impl.RePurge, Key: "t1/000005-000002"},
	} {
		got, code := impl.RecordText(r)
		if got != text || code != impl.OK {
			t.Errorf("RecordText(%v) = %q, code %d, want %q", r, got, code, text)
		}
		wantRecordRead(t, text, r, impl.OK)
	}
}

func TestP7RecordsThatAreNotRight(t *testing.T) {
	for _, r := range wrongRecords() {
		if impl.RecordOK(r) {
			t.Errorf("%v is not right", r)
		}
		if text, code := impl.RecordText(r); text != "" || code != impl.ErrBad {
			t.Errorf("RecordText(%v) = %q, code %d", r, text, code)
		}
		if written := recordWritten(r); len(written) <= impl.MaxText {
			wantRecordRead(t, written, impl.Record{}, impl.ErrForm)
		}
	}
}

// noRecords are data that cannot be read as a record, but fit into an object.
func noRecords() []string {
	list := []string{
		"", " ", "what", ",,,, ", "2", "2,1,0,0,0", "2,1,0,0,0,", "2,1,0,0,0  ", " 2,1,0,0,0 ", "2,1,0,0,0\n", "2,1,0,0,0 \n", "2,1,0,0,0\t", "2,1,0,0,0 x", "2,1,0,0 ", "2,1,0,0,0,0 ", "2 1 0 0 0 ", "2;1;0;0;0 ",
		"2,1,0,0,0 raw/000012-000003", "5,0,0,0,0", "5,0,0,0,0 ", "5,0,0,0,0raw/000012-000003", "5,0,0,0,0  raw/000012-000003", "5,0,0,0,0 raw/000012-000003 ", "5,0,0,0,0 raw/000012-000003\n", "5,0,0,0,0,raw/000012-000003",
		"5,0,0,0,0 raw/000012-000003 raw/000012-000003", "raw/000012-000003 5,0,0,0,0", "5,0,0,0,0\x00raw/000012-000003", "1,0,0,5,10", "1,0,0,5,10 ", "1,0,0,5,10 t1/000012-000003", "1,0,0,10,10 raw/000012-000003", "1,0,0,10,5 raw/000012-000003",
		"1,,0,5,10 raw/000012-000003", "1,0,5,10 raw/000012-000003", "1,0,0,5,10,0 raw/000012-000003", ",0,0,5,10 raw/000012-000003", "1,0,0,5, raw/000012-000003", "3,5,0,5,10 raw/000005-000005", "3,0,1,5,10 t1/000005-000005",
		strings.Repeat("9", 600), strings.Repeat(",", 600), strings.Repeat(" ", 600), strings.Repeat("0", 580) + "2,1,0,0,0 ",
	}
	for _, number := range wrongNumbers() {
		list = append(list, number+",0,0,5,10 raw/000012-000003", "1,0,0,"+number+",10 raw/000012-000003", "1,0,0,5,"+number+" raw/000012-000003", "2,"+number+",0,0,0 ", "4,1,"+number+",5,10 t1/000005-000001")
	}
	return list
}

func TestP7TextsThatAreNoRecord(t *testing.T) {
	for _, text := range noRecords() {
		wantRecordRead(t, text, impl.Record{}, impl.ErrForm)
	}
}

func TestP7LongTextsOfRecords(t *testing.T) {
	for n, want := range map[int]int{impl.MaxText - 1: impl.ErrForm, impl.MaxText: impl.ErrForm, impl.MaxText + 1: impl.ErrLong, 20 * impl.MaxText: impl.ErrLong} {
		for _, text := range longTexts(n) {
			wantRecordRead(t, text, impl.Record{}, want)
		}
		for _, head := range []string{"2,1,0,0,0 ", "5,0,0,0,0 raw/000012-000003", "5,0,0,0,0 "} {
			wantRecordRead(t, head+strings.Repeat(" ", n-len(head)), impl.Record{}, want)
			wantRecordRead(t, head+strings.Repeat("0", n-len(head)), impl.Record{}, want)
			wantRecordRead(t, strings.Repeat("0", n-len(head))+head, impl.Record{}, want)
		}
	}
}

var recordForm = regexp.MustCompile(`\A` + numberForm + strings.Repeat(`,`+numberForm, 4) + ` ([^ ]*)\z`)

// plainRecordOf is the record whose text it is, if it is one, as the document tells it.
func plainRecordOf(text string) (impl.Record, bool) {
	found := recordForm.FindStringSubmatch(text)
	if found == nil {
		return impl.Record{}, false
	}
	var n [5]int
	for i := range n {
		n[i], _ = strconv.Atoi(found[1+i])
	}
	r := impl.Record{Kind: n[0], Token: n[1], Tier: n[2], From: n[3], To: n[4], Key: found[6]}
	if !plainRecord(r) {
		return impl.Record{}, false
	}
	return r, true
}

func agreesOnRecord(t *testing.T, text string) {
	t.Helper()
	if r, ok := plainRecordOf(text); ok {
		wantRecordReadBack(t, r)
		wantRecordRead(t, text, r, impl.OK)
	} else {
		wantRecordRead(t, text, impl.Record{}, impl.ErrForm)
	}
}

// Whatever is done to one byte of a text, it is no text, or that of another record.
func TestP7EachByteOfARecordCounts(t *testing.T) {
	for _, whole := range []string{"2,1,0,0,0 ", "1,0,0,5,10 raw/000012-000003", "3,10,2,20,40 t2/000020-000010", "4,5,1,0,99999 t1/000000-000009", "5,0,0,0,0 raw/000012-000003"} {
		neighbours(whole, func(text string) { agreesOnRecord(t, text) })
	}
}

func TestP7StrewnTextsOfRecords(t *testing.T) {
	r := rand.New(rand.NewSource(71))
	pieces := []string{"0", "1", "2", "5", ",", ",", " ", "-", "1,0,0,", "5,10 ", "2,1,0,0,0 ", "5,0,0,0,0 ", "raw/000012-000003", "t1/000005-000001", "3,1,1,", "4,1,"}
	for range 50000 {
		agreesOnRecord(t, strewn(r, 6, pieces))
	}
}
