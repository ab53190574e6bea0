package tests

import (
	"fmt"
	"math/rand"
	"strings"
	"testing"

	"loop.example/g00601/impl"
)

func wantReadBack(t *testing.T, a impl.Agg) {
	t.Helper()
	want := fmt.Sprintf("%d,%d,%d,%d,%d,%d", a.Count, a.Sum, a.Min, a.Max, a.First, a.Last)
	text, code := impl.AggText(a)
	if text != want || code != impl.OK {
		t.Errorf("AggText(%v) = %q, code %d", a, text, code)
	}
	back, code := impl.ReadAgg(text)
	wantAgg(t, fmt.Sprintf("ReadAgg(%q)", text), back, code, a, impl.OK)
}

func TestP3AggregatesAreReadBack(t *testing.T) {
	for _, a := range rightAggs() {
		wantReadBack(t, a)
	}
	r := rand.New(rand.NewSource(4))
	for range 300 {
		wantReadBack(t, foldOf(randomSamples(r, r.Intn(30), 1+r.Intn(impl.MaxValue))))
	}
}

func TestP3TextsOfWhatIsNotRight(t *testing.T) {
	for _, bad := range wrongAggs() {
		if text, code := impl.AggText(bad); text != "" || code != impl.ErrBad {
			t.Errorf("AggText(%v) = %q, code %d", bad, text, code)
		}
		text := fmt.Sprintf("%d,%d,%d,%d,%d,%d", bad.Count, bad.Sum, bad.Min, bad.Max, bad.First, bad.Last)
		a, code := impl.ReadAgg(text)
		wantAgg(t, fmt.Sprintf("ReadAgg(%q)", text), a, code, impl.Agg{}, impl.ErrForm)
	}
}

func TestP3TextsThatAreNone(t *testing.T) {
	for _, text := range []string{
		"", ",", ",,,,,", ",,,,,,", "0", "0,0,0,0,0", "0,0,0,0,0,0,0", "0,0,0,0,0,0,", ",0,0,0,0,0,0", "0,0,,0,0,0,0",
		"3,11,-2,8,5", "3,11,-2,8,5,8,8", "3,11,-2,8,5,", "3,11,-2,8,,8", "3,,-2,8,5,8",
		"03,11,-2,8,5,8", "3,011,-2,8,5,8", "3,11,-02,8,5,8", "3,11,-2,08,5,8", "3,11,-2,8,05,8", "3,11,-2,8,5,08",
		"00,0,0,0,0,0", "0,0,0,0,0,00", "000000000000000000,0,0,0,0,0",
		"-0,0,0,0,0,0", "0,-0,0,0,0,0", "0,0,0,0,0,-0", "1,-0,0,0,0,0", "-00,0,0,0,0,0",
		"+3,11,-2,8,5,8", "3,11,-2,8,5,+8", "3,11,--2,8,5,8", "3,11,-,8,5,8", "3,11,2-,8,5,8", "3,11,-2,8,5,-",
		" 3,11,-2,8,5,8", "3,11,-2,8,5,8 ", "3, 11,-2,8,5,8", "3,11,-2,8,5,8\n", "3 11 -2 8 5 8", "3;11;-2;8;5;8",
		"3,11,-2,8,5,8\x00", "3.0,11,-2,8,5,8", "3,1e1,-2,8,5,8", "0x3,11,-2,8,5,8", "3,1_1,-2,8,5,8", "x,1,1,1,1,1", "٣,11,-2,8,5,8", "3,11,−2,8,5,8",
		"3,1000000000000000000,-2,8,5,8", "3,999999999999999999,-2,8,5,8", "3,-999999999999999999,-2,8,5,8",
		"3,9223372036854775807,-2,8,5,8", "3,9223372036854775808,-2,8,5,8", "3,-9223372036854775808,-2,8,5,8", "3,18446744073709551627,-2,8,5,8",
		"18446744073709551619,11,-2,8,5,8", strings.Repeat("9", 100) + ",11,-2,8,5,8",
		strings.Repeat("0,", 6), strings.Repeat("0,", 1000) + "0", strings.Repeat("0", impl.MaxText), strings.Repeat(",", impl.MaxText), strings.Repeat("-", impl.MaxText),
	} {
		a, code := impl.ReadAgg(text)
		wantAgg(t, fmt.Sprintf("ReadAgg(%.60q) of %d bytes", text, len(text)), a, code, impl.Agg{}, impl.ErrForm)
	}
}

func TestP3TextsThatAreTooLong(t *testing.T) {
	for _, text := range []string{
		text(impl.MaxText + 1), strings.Repeat(",", impl.MaxText+1), strings.Repeat("0", impl.MaxText-10) + ",0,0,0,0,0",
		"3,11,-2,8,5,8" + strings.Repeat(" ", impl.MaxText), strings.Repeat("9", 10*impl.MaxText),
	} {
		want := impl.ErrForm
		if len(text) > impl.MaxText {
			want = impl.ErrLong
		}
		a, code := impl.ReadAgg(text)
		wantAgg(t, fmt.Sprintf("ReadAgg of %d bytes", len(text)), a, code, impl.Agg{}, want)
	}
}

// Whatever one byte of a text is turned into, it is no text, or that of another aggregate.
func TestP3EachByteOfATextCounts(t *testing.T) {
	const whole = "13,110,-20,88,5,-8"
	first, code := impl.ReadAgg(whole)
	wantCode(t, whole, code, impl.OK)
	for i := range len(whole) {
		for b := range 256 {
			changed := whole[:i] + string([]byte{byte(b)}) + whole[i+1:]
			a, code := impl.ReadAgg(changed)
			back, backCode := impl.AggText(a)
			switch {
			case code == impl.OK && (backCode != impl.OK || back != changed || (a == first) != (changed == whole)):
				t.Errorf("ReadAgg(%q) = %v, whose text is %q", changed, a, back)
			case code != impl.OK && (code != impl.ErrForm || a != impl.Agg{}):
				t.Errorf("ReadAgg(%q) = %v, code %d", changed, a, code)
			}
		}
	}
}
