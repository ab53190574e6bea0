package tests

import (
	"fmt"
	"math"
	"regexp"
	"slices"
	"strconv"
	"testing"

	"loop.example/g00601/impl"
)

func mustBeNoKey(t *testing.T, key string, want int) {
	t.Helper()
	if tier, n, who, code := impl.ReadDataKey(key); tier != 0 || n != 0 || who != 0 || code != want {
		t.Errorf("ReadDataKey of %.60q of %d bytes = %d, %d, %d, code %d, want zeros, code %d", key, len(key), tier, n, who, code, want)
	}
}

func mustBeKeyOf(t *testing.T, key string, tier, n, who int) {
	t.Helper()
	got, code := impl.DataKey(tier, n, who)
	if got != key || code != impl.OK || !impl.KeyOK(got) {
		t.Errorf("DataKey(%d, %d, %d) = %q, code %d, want %q", tier, n, who, got, code, key)
	}
	gotTier, gotN, gotWho, code := impl.ReadDataKey(key)
	if gotTier != tier || gotN != n || gotWho != who || code != impl.OK {
		t.Errorf("ReadDataKey(%q) = %d, %d, %d, code %d", key, gotTier, gotN, gotWho, code)
	}
}

func TestP4KeysAreReadBack(t *testing.T) {
	numbers := []int{0, 1, 9, 10, 99, 100, 12345, 100000, 123456, 999998, 999999}
	for tier, word := range []string{"raw", "t1", "t2"} {
		for _, n := range numbers {
			for _, who := range numbers {
				mustBeKeyOf(t, fmt.Sprintf("%s/%06d-%06d", word, n, who), tier, n, who)
			}
		}
		for n := 0; n < 1000000; n += 97 {
			mustBeKeyOf(t, fmt.Sprintf("%s/%06d-%06d", word, n, 999999-n), tier, n, 999999-n)
		}
	}
}

func TestP4KeysOfNumbersOutOfBounds(t *testing.T) {
	off := []int{-1, 1000000, 1000001, 9999999, 1 << 32, math.MinInt, math.MaxInt, -999999}
	refused := func(tier, n, who int) {
		t.Helper()
		if key, code := impl.DataKey(tier, n, who); key != "" || code != impl.ErrRange {
			t.Errorf("DataKey(%d, %d, %d) = %q, code %d", tier, n, who, key, code)
		}
	}
	for _, bad := range off {
		for tier := range impl.Tiers {
			refused(tier, bad, 0)
			refused(tier, 0, bad)
			refused(tier, 999999, bad)
			refused(tier, bad, bad)
		}
	}
	for _, tier := range []int{-1, impl.Tiers, impl.Tiers + 1, 1 << 32, math.MinInt, math.MaxInt} {
		refused(tier, 0, 0)
		refused(tier, 999999, 999999)
		refused(tier, -1, math.MaxInt)
	}
}

func TestP4TextsThatAreNoKeys(t *testing.T) {
	for _, key := range []string{
		"", "lease", "man/000001", "pin/4", "/", "-", "raw", "raw/", "raw-", "t1", "t1/", "t2/", "000012-000003", "/000012-000003",
		"raw/000012", "raw/000012-", "raw/-000003", "raw/-", "raw/000012000003", "raw/000012--000003", "raw/000012_000003", "raw/000012/000003", "raw/000012 000003", "raw/000012+000003",
		"raw/00012-000003", "raw/0000012-000003", "raw/000012-00003", "raw/000012-0000003", "raw/12-3", "raw/1000000-000003", "raw/000012-1000000", "raw/00000-0000003", "raw/0000000-00003",
		"raw/-00012-000003", "raw/+00012-000003", "raw/000012--00003", "raw/000012-+00003", "raw/-000012-000003", "raw/000012-000-03", "raw/000-12-000003",
		"raw/00001x-000003", "raw/x00012-000003", "raw/000012-00000x", "raw/0x0012-000003", "raw/0000 2-000003", "raw/00_012-000003", "raw/000.12-000003", "raw/0001e2-000003", "raw/000012-٣0000", "raw/00001:-000003", "raw/00001/-000003",
		"t0/000012-000003", "t3/000012-000003", "t9/000012-000003", "t/000012-000003", "t12/000012-000003", "t-1/000012-000003", "t01/000012-000003", "ra/000012-000003", "raww/000012-000003", "rawt1/000012-000003", "r/000012-000003",
		"RAW/000012-000003", "Raw/000012-000003", "T1/000012-000003", "raw//000012-000003", "raw\\000012-000003", "raw000012-000003", "t1000012-000003", "raw-000012-000003", " raw/000012-000003", "\x00raw/000012-000003", "/raw/000012-000003", "x/raw/000012-000003",
		"raw/000012-000003/", "raw/000012-000003-", "raw/000012-0000030", "raw/000012-000003 ", "raw/000012-000003\n", "raw/000012-000003\x00", "raw/000012-000003a", "raw/000012-000003-000004", "raw/000012-000003raw/000012-000003",
		"raw/000012-000003" + text(impl.MaxText-17),
	} {
		mustBeNoKey(t, key, impl.ErrKey)
	}
	mustBeNoKey(t, "raw/000012-000003"+text(impl.MaxText-16), impl.ErrLong)
	mustBeNoKey(t, text(impl.MaxText), impl.ErrKey)
	mustBeNoKey(t, text(impl.MaxText+1), impl.ErrLong)
}

var keyForm = regexp.MustCompile(`\A(raw|t1|t2)/([0-9]{6})-([0-9]{6})\z`)

func TestP4EachByteOfAKeyCounts(t *testing.T) {
	for _, key := range []string{"raw/000012-000003", "t1/123450-999999", "t2/000000-000000"} {
		neighbours(key, func(other string) {
			found := keyForm.FindStringSubmatch(other)
			if found == nil {
				mustBeNoKey(t, other, impl.ErrKey)
				return
			}
			n, _ := strconv.ParseInt(found[2], 10, 64)
			who, _ := strconv.ParseInt(found[3], 10, 64)
			mustBeKeyOf(t, other, slices.Index([]string{"raw", "t1", "t2"}, found[1]), int(n), int(who))
		})
	}
}

// No two data keys are alike, and those of a tier are in the order of their numbers.
func TestP4KeysOfATierRiseWithTheirNumbers(t *testing.T) {
	numbers := []int{0, 1, 2, 9, 10, 11, 99, 100, 99999, 100000, 999999}
	for tier := range impl.Tiers {
		last := ""
		for _, n := range numbers {
			for _, who := range numbers {
				key, code := impl.DataKey(tier, n, who)
				if code != impl.OK || key <= last {
					t.Errorf("DataKey(%d, %d, %d) = %q, code %d, behind %q", tier, n, who, key, code, last)
				}
				last = key
			}
		}
	}
}
