package tests

import (
	"fmt"
	"slices"
	"strings"
	"testing"

	"loop.example/g00601/impl"
)

func TestP11KeysOfPins(t *testing.T) {
	for id := range 10 {
		want := "pin/" + "0123456789"[id:id+1]
		if key, code := impl.PinKey(id); key != want || code != impl.OK || !impl.KeyOK(key) {
			t.Errorf("PinKey(%d) = %q, code %d, want %q", id, key, code, want)
		}
	}
	for _, id := range wrongWhos() {
		if key, code := impl.PinKey(id); key != "" || code != impl.ErrRange {
			t.Errorf("PinKey(%d) = %q, code %d", id, key, code)
		}
	}
}

// A pin's number and 6 are not below now: at that time, one ahead of it, and one behind it.
func TestP11PinsAtTheirEnd(t *testing.T) {
	for _, until := range []int{0, 1, 40, 99999, 100000, 100994, 100995, 100996, 101030, 200000, 200001, 999999999999999999} {
		x := laid(mixedStore(), "pin/4", fmt.Sprint(until))
		for _, now := range []int{0, until, until + 5, until + 6} {
			if now <= lastNow {
				wantPins(t, "it holds", x, now, "pin/4")
			}
		}
		for _, now := range []int{until + 7, until + 8, lastNow} {
			if now <= lastNow && now > until+6 {
				wantPins(t, "it is old", x, now)
			}
		}
	}
	// Numbers below 0 are numbers, too.
	for _, c := range []struct {
		data string
		last int
	}{
		{"-1", 5}, {"-5", 1}, {"-6", 0}, {"-7", -1}, {"-999999999999999999", -1},
	} {
		x := laid(mixedStore(), "pin/4", c.data)
		for now := range 10 {
			if now <= c.last {
				wantPins(t, c.data, x, now, "pin/4")
			} else {
				wantPins(t, c.data, x, now)
			}
		}
	}
}

// noNumbers are texts that fit into an object, but are no numbers.
func noNumbers() []string {
	return []string{
		"", "what", "-", "+", "+5", "-0", "00", "05", "007", "-05", "--5", "5-", " 5", "5 ", " ", "5\n", "\n5", "5\x00", "5.0", "5e0", "0x5", "5_0", "1 2", "5,5", "٣",
		"1000000000000000000", "-1000000000000000000", "0000000000000000005", "9223372036854775807", "-9223372036854775808", "9223372036854775808", "18446744073709551621",
		strings.Repeat("9", 600), strings.Repeat("0", 600), strings.Repeat("1", 19), text(600),
	}
}

// What tells no time holds at all times.
func TestP11PinsThatAreNoNumbers(t *testing.T) {
	for _, data := range noNumbers() {
		x := laid(mixedStore(), "pin/4", data)
		for _, now := range []int{0, 12, 9000, lastNow} {
			wantPins(t, fmt.Sprintf("%.30q", data), x, now, "pin/4")
		}
	}
	for _, data := range []string{"0", "5", "9", "10", "39", "-5", "-999999999999999999"} {
		wantPins(t, data, laid(mixedStore(), "pin/4", data), 46)
	}
	for _, data := range []string{"40", "100", "100000", "999999999999999999", "123456789012345678"} {
		wantPins(t, data, laid(mixedStore(), "pin/4", data), 46, "pin/4")
	}
}

// Keys that begin with `pin/` are pins, whatever is behind; no others are.
func TestP11KeysThatArePins(t *testing.T) {
	pins := []string{"pin/", "pin/-", "pin/-1", "pin//", "pin/0", "pin/00", "pin/04", "pin/10", "pin/4", "pin/4/", "pin/999999", "pin/a", "pin/pin/4", "pin/" + text(26)}
	others := []string{"pin", "pin-4", "pin0", "pina/4", "pi/4", "in/4", "p/pin/4", "a/pin/4", "4", "lease", "man/000001", "raw/000001-000002", "pio/4", "spin/4", "pin-/4", "-pin/4"}
	data := map[string]string{}
	for _, key := range append(slices.Clone(pins), others...) {
		if !impl.KeyOK(key) {
			t.Fatal("no key", key)
		}
		data[key] = "40"
	}
	x := withObjects(mixedStore(), data)
	slices.Sort(pins)
	wantPins(t, "all of them", x, 46, pins...)
	wantPins(t, "none of them", x, 47)
	for _, key := range pins {
		wantPins(t, "one that is no number", laid(x, key, "what"), 47, key)
		wantPins(t, "one that holds", laid(x, key, "41"), 47, key)
		wantPins(t, "all but one", laid(x, key, "39"), 46, slices.DeleteFunc(slices.Clone(pins), func(k string) bool { return k == key })...)
	}
	for _, key := range others {
		wantPins(t, "no pin", laid(x, key, "what"), 47)
		wantPins(t, "no pin", laid(x, key, "200000"), 47)
	}
}

// Pins are told in the order of their keys, whatever versions they have, up to all objects of a full store.
func TestP11ManyPins(t *testing.T) {
	x := impl.Store{Next: 1000}
	var all, some []string
	for i := range 300 {
		key := fmt.Sprintf("pin/%03d", i)
		x.Objects = append(x.Objects, impl.Object{Key: key, Ver: 999 - i, Data: fmt.Sprint(i)})
		all = append(all, key)
		if i >= 94 {
			some = append(some, key)
		}
	}
	wantPins(t, "all objects", x, 0, all...)
	wantPins(t, "all objects", x, 6, all...)
	wantPins(t, "all but one", x, 7, all[1:]...)
	wantPins(t, "some", x, 100, some...)
	wantPins(t, "the last one", x, 305, all[299])
	wantPins(t, "none", x, 306)
}

func TestP11StoresWithoutPins(t *testing.T) {
	x, _ := queryStore(t)
	for _, x := range append(rightStores(), x, fetchStore(), fullWith(x), lateWith(x)) {
		for _, now := range []int{0, 40, lastNow} {
			wantPins(t, "none", x, now)
		}
	}
}

func TestP11PinsOfWhatIsNotRight(t *testing.T) {
	for _, x := range append(wrongLogStores(), wrongStores()...) {
		for _, now := range append(wrongNows(), 0, 46, lastNow) {
			if keys, code := impl.PinsAt(x, now); len(keys) > 0 || code != impl.ErrBad {
				t.Errorf("PinsAt %d of %.100s = %q, code %d", now, fmt.Sprint(x), keys, code)
			}
		}
	}
	for _, x := range append(rightStores(), laid(mixedStore(), "pin/4", "40"), laid(mixedStore(), "pin/4", "what")) {
		for _, now := range wrongNows() {
			if keys, code := impl.PinsAt(x, now); len(keys) > 0 || code != impl.ErrRange {
				t.Errorf("PinsAt %d = %q, code %d", now, keys, code)
			}
		}
	}
}
