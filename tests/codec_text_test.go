package tests

import (
	"math/rand"
	"strings"
	"testing"

	"loop.example/g00601/impl"
)

// wrongNumbers are texts of no number, wherever one ought to stand.
func wrongNumbers() []string {
	return []string{
		"", " ", "-", "--1", "1-", "1-1", "+1", "+0", "-+1", "-0", "-00", "00", "01", "-01", "000000000000000001",
		"1000000000000000000", "-1000000000000000000", "9223372036854775807", "-9223372036854775808", "9223372036854775808",
		"18446744073709551616", "18446744073709551617", strings.Repeat("1", 100), strings.Repeat("0", 100), strings.Repeat("-", 100),
		"1.0", "1e1", "0x1", "1_1", "a", "1a", "a1", "1\n", "\t1", "1\x00", "\x001", "٣", "−1", "1,", ",1", "=1", "1=", ":1", "1:", "1/",
	}
}

func TestP4SampleTextsThatAreNone(t *testing.T) {
	k := sampleKind()
	for _, text := range []string{
		" ", "  ", "\n", "\x00", "x", "=", "==", "= =", ":", ",",
		" 1=5", "1=5 ", "  1=5", "1=5  ", "1=5  2=3", "1=5   2=3", " 1=5 2=3", "1=5 2=3 ", "1=5\t2=3", "1=5\n2=3", "1=5,2=3", "1=5;2=3", "1=52=3", "1=5\u00a02=3", "1=5\n",
		"1", "1 5", "15", "1=", "=5", "1==5", "1=5=2", "1=5=", "=1=5", "1:5", "1-5", "1= 5", "1 =5", "1 = 5", "1=5 2", "1=5 2=", "1=5 =3", "1=5 =", "1 2=3", "1= 2=3",
		"1=5 1=5", "2=5 1=5", "1=1 2=2 3=3 3=4", "1=1 2=2 3=3 2=4",
		"1=1 2=1 3=1 4=1 5=1 6=1 7=1 8=1 9=1", "1=1 2=1 3=1 4=1 5=1 6=1 7=1 8=1 ", "1=1 2=1 3=1 4=1 5=1 6=1 7=1 8=1 x", "1=1 2=1 3=1 4=1 5=1 6=1 7=1 8=1x", "1=1 2=1 3=1 4=1 5=1 6=1 7=1 8=1=",
	} {
		k.mustRefuse(t, text, impl.ErrForm)
	}
	for _, n := range wrongNumbers() {
		for _, text := range []string{n + "=5", "1=" + n, n + "=5 30=2", "0=" + n + " 30=2", "0=5 " + n + "=2", "0=5 30=" + n} {
			k.mustRefuse(t, text, impl.ErrForm)
		}
	}
}

func TestP4BucketTextsThatAreNone(t *testing.T) {
	k := bucketKind()
	const a = "1,7,7,7,7,7"
	for _, text := range []string{
		" ", "  ", "\n", "\x00", "x", "=", ":", "::", ",", ",,,,,", ":,,,,,", a, "5=" + a, "5=7",
		" 5:" + a, "5:" + a + " ", "5:" + a + "  6:" + a, "5:" + a + "\t6:" + a, "5:" + a + "\n6:" + a, "5:" + a + ",6:" + a, "5:" + a + "6:" + a, "5:" + a + "\n",
		"5", "5:", ":" + a, "5" + a, "5," + a, "5::" + a, "5:" + a + ":", "5:1:2", ":5:" + a, "5: " + a, "5 :" + a, "5 " + a, "5:" + a + " 6", "5:" + a + " 6:", "5:" + a + " :" + a, "5:" + a + " " + a,
		"5:7,7,7,7,7", "5:1,7,7,7,7", "5:1,7,7,7,7,7,7", "5:1,7,7,7,7,7,", "5:,1,7,7,7,7,7", "5:1,,7,7,7,7,7", "5:1,7,7,7,7,", "5:1 7 7 7 7 7", "5:1,7,7,7, 7,7", "5:1;7;7;7;7;7", "5:1=7,7,7,7,7", "5:177777",
		"5:0,0,0,0,0,0", "5:" + a + " 6:0,0,0,0,0,0", "5:0,0,0,0,0,0 6:" + a,
		"5:" + a + " 5:" + a, "5:" + a + " 4:" + a, "1:" + a + " 2:" + a + " 3:" + a + " 2:" + a,
		strings.TrimSuffix(strings.Repeat("5:"+a+" ", 9), " "), "1:1,0,0,0,0,0 2:1,0,0,0,0,0 3:1,0,0,0,0,0 4:1,0,0,0,0,0 5:1,0,0,0,0,0 6:1,0,0,0,0,0 7:1,0,0,0,0,0 8:1,0,0,0,0,0 ",
	} {
		k.mustRefuse(t, text, impl.ErrForm)
	}
	for _, n := range wrongNumbers() {
		k.mustRefuse(t, n+":"+a, impl.ErrForm)
		k.mustRefuse(t, "0:"+a+" "+n+":"+a, impl.ErrForm)
		for place := range 6 {
			numbers := strings.Split("1,1,1,1,1,1", ",")
			numbers[place] = n
			k.mustRefuse(t, "0:"+strings.Join(numbers, ","), impl.ErrForm)
			k.mustRefuse(t, "0:"+strings.Join(numbers, ",")+" 7:"+a, impl.ErrForm)
			k.mustRefuse(t, "0:"+a+" 7:"+strings.Join(numbers, ","), impl.ErrForm)
		}
	}
}

// longTexts are texts of n bytes, none of which is a list's.
func longTexts(n int) []string {
	var texts []string
	for _, unit := range []string{" ", "0", "9", "-", "=", ":", ",", "a", "\x00", "0=0 ", "1=1 2=2 ", "0:1,0,0,0,0,0 ", "0,"} {
		texts = append(texts, strings.Repeat(unit, n/len(unit)+1)[:n])
	}
	texts = append(texts, "1=5"+strings.Repeat(" ", n-3), "1="+strings.Repeat("0", n-3)+"5", strings.Repeat("0", n-3)+"1=5")
	return append(texts, "5:1,0,0,0,0,0"+strings.Repeat(" ", n-13), "5:1,0,0,0,0,"+strings.Repeat("0", n-12))
}

func TestP4TextsThatAreTooLong(t *testing.T) {
	for n, want := range map[int]int{impl.MaxText - 1: impl.ErrForm, impl.MaxText: impl.ErrForm, impl.MaxText + 1: impl.ErrLong, 20 * impl.MaxText: impl.ErrLong} {
		for _, text := range longTexts(n) {
			sampleKind().mustRefuse(t, text, want)
			bucketKind().mustRefuse(t, text, want)
			mustBeNoKey(t, text, map[int]int{impl.ErrForm: impl.ErrKey, impl.ErrLong: impl.ErrLong}[want])
		}
	}
}

// neighbours calls do with all texts that are one byte off: one turned into another, one more, one less, two swapped.
func neighbours(text string, do func(string)) {
	for i := range len(text) + 1 {
		for b := range 256 {
			one := string([]byte{byte(b)})
			do(text[:i] + one + text[i:])
			if i < len(text) {
				do(text[:i] + one + text[i+1:])
			}
		}
		if i < len(text) {
			do(text[:i] + text[i+1:])
		}
		if i+1 < len(text) {
			do(text[:i] + text[i+1:i+2] + text[i:i+1] + text[i+2:])
		}
	}
}

func TestP4EachByteOfAListsTextCounts(t *testing.T) {
	for _, text := range []string{"", "0=0", "1=5 40=-2", "9=-1000000 10=1000000 99999=100", "1=1 2=1 3=1 4=1 5=1 6=1 7=1 8=1"} {
		sampleKind().agrees(t, text)
		neighbours(text, func(other string) { sampleKind().agrees(t, other) })
	}
	for _, text := range []string{"", "0:1,0,0,0,0,0", "5:3,11,-2,8,5,8 40:13,110,-20,88,5,-8", "1:1,1,1,1,1,1 2:1,1,1,1,1,1 3:1,1,1,1,1,1 4:1,1,1,1,1,1 5:1,1,1,1,1,1 6:1,1,1,1,1,1 7:1,1,1,1,1,1 8:1,1,1,1,1,1"} {
		bucketKind().agrees(t, text)
		neighbours(text, func(other string) { bucketKind().agrees(t, other) })
	}
}

// strewn is a text of up to n pieces.
func strewn(r *rand.Rand, n int, pieces []string) string {
	var text strings.Builder
	for range r.Intn(n + 1) {
		text.WriteString(pieces[r.Intn(len(pieces))])
	}
	return text.String()
}

func TestP4StrewnTexts(t *testing.T) {
	r := rand.New(rand.NewSource(43))
	samples := []string{"0", "1", "=", "=", "-", " ", "0=7", " 1=-2", "3=0 "}
	buckets := []string{"0", "1", ":", ",", "-", " ", "0:1,0,0,0,0,0", " 1:2,3,0,9,9,0", "3:1,-4,-4,-4,-4,-4 ", ",0"}
	for range 50000 {
		sampleKind().agrees(t, strewn(r, 10, samples))
		bucketKind().agrees(t, strewn(r, 6, buckets))
	}
}
