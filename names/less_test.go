package names_test

import (
	"slices"
	"strings"
	"testing"

	"coffret/api"
	"coffret/names"
)

// P9.3: of two names the one that is first.
func TestLessOfTwo(t *testing.T) {
	for _, c := range []struct{ first, second string }{
		{"", "a"},
		{"", "\x00"},
		{"", "\xff"},
		{"a", "b"},
		{"a", "ab"},
		{"a", "a\x00"},
		{"a", "a/"},
		{"ab", "b"},
		{"abc", "abd"},
		{"abc", "abcd"},
		{"abz", "acb"},
		{"azz", "baa"},
		{"B", "a"},
		{"Z", "a"},
		{"a-b", "a.b"},
		{"a.b", "a/b"},
		{"a/b", "a0"},
		{"a", "a-b"},
		{"10", "9"},
		{"1", "10"},
		{"010", "10"},
		{"\x00", "\x01"},
		{"\x00b", "\x01"},
		{"\x7f", "\x80"},
		{"a\x7fz", "a\x80a"},
		{"z", "\x80"},
		{"\x80", "\x81"},
		{"\x80", "\xff"},
		{"\xfe", "\xff"},
		{"\xc3\xa9", "\xff"},
		{"z", "\u00e9"},
		{"\u00e9", "\u4e16"},
		{"\u4e16", "\U0001f600"},
		{"\xed\xbf\xbf", "\ufffd"}, // no letter, though gone over as that one
		{"\ufffd", "\xf0"},
		{"\xbf", "\ufffd"},
		{"\uffff", "\U00010000"},
		{"\x80a", "\x81"},
		{"\xff", "\xff\x00"},
		{"E", "\u00c9"},
		{"e\u0301", "\u00e9"},
	} {
		checkFirst(t, c.first, c.second)
	}
}

// P9.3: names that are the same, wherever they stand.
func TestLessOfTheSame(t *testing.T) {
	for _, s := range []string{"", "a", "\x00", "\xff", "a/b", "\u00e9", repeated("xy", api.MaxName), repeated("\xff\x80", 3*api.MaxSized)} {
		if names.Less(s, s) || names.Less(s, strings.Clone(s)) {
			t.Errorf("%q is ahead of itself", some(s))
		}
	}
}

// P9.3: unlike at each place of a long name, whatever lies behind; and one that begins the other.
func TestLessAtEachPlace(t *testing.T) {
	for _, fill := range []string{"x", "\x80", "\u4e16"} {
		s := repeated(fill, 200)
		for i := range len(s) {
			checkFirst(t, s[:i], s)
			checkFirst(t, s[:i]+"\x01"+s[i+1:], s)
			checkFirst(t, s, s[:i]+"\xff"+s[i+1:])
			checkFirst(t, s, s[:i]+"\xff")
			checkFirst(t, s[:i]+"\x01"+strings.Repeat("\xff", 300), s)
		}
	}
}

// P9.3: each two bytes, alone, and with others ahead and behind.
func TestLessOfEachTwoBytes(t *testing.T) {
	for x := range 256 {
		for y := range x {
			low, high := string([]byte{byte(y)}), string([]byte{byte(x)})
			checkFirst(t, low, high)
			checkFirst(t, "a"+low+"z", "a"+high+"b")
			checkFirst(t, "\xe4"+low, "\xe4"+high)
		}
	}
}

// P9.3: held against the chapter taken word by word, all pairs of texts of a few pieces; in order, each is ahead of all that follow.
func TestLessAsThePlainOne(t *testing.T) {
	var l []string
	eachOf([]string{"a", "B", "/", "\x00", "\x80", "\xff", "\u00e9"}, 3, func(s string) {
		l = append(l, s)
	})
	for _, a := range l {
		for _, b := range l {
			if got, want := names.Less(a, b), plainLess(a, b); got != want {
				t.Errorf("Less(%q, %q) is %v, want %v", a, b, got, want)
			}
		}
	}
	slices.SortFunc(l, func(a, b string) int {
		if names.Less(a, b) {
			return -1
		}
		if names.Less(b, a) {
			return 1
		}
		return 0
	})
	for i, a := range l {
		for _, b := range l[i+1:] {
			checkFirst(t, a, b)
		}
	}
}
