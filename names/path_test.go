package names_test

import (
	"slices"
	"strings"
	"testing"
	"unsafe"

	"coffret/api"
	"coffret/names"
)

// The chapter's example 1.
func TestPathExample(t *testing.T) {
	checkPath(t, "a/b", []string{"a", "b"})
}

// P9.2: Part of no bytes, of few, of dots, and with others than letters.
func TestPart(t *testing.T) {
	for s, want := range map[string]bool{
		"":             false,
		"a":            true,
		"ab":           true,
		".":            false,
		"..":           false,
		"...":          true,
		"....":         true,
		".a":           true,
		"a.":           true,
		"..a":          true,
		"a..":          true,
		"a..b":         true,
		". ":           true,
		" .":           true,
		".\x01":        true,
		".\xff":        true,
		"..\n":         true,
		"\u2024":       true,
		"\u2025":       true,
		"-":            true,
		"-a":           true,
		"a.lock":       true,
		".lock":        true,
		"0":            true,
		"00":           true,
		" ":            true,
		"a b":          true,
		"a\\b":         true,
		"a:b":          true,
		"\n":           true,
		"\x7f":         true,
		"\xff":         true,
		"\u00e9":       true,
		"\ufffd":       true,
		"\xc0\x80":     true, // no text of UTF-8, so no 0
		"\xc0\xaf":     true, // nor a slash
		"\xe0\x80\xaf": true,
		"\u2215":       true,
		"\u012f":       true, // a slash, and 0, modulo 256 alone
		"\u0100":       true,
		"/":            false,
		"//":           false,
		"a/":           false,
		"/a":           false,
		"a/b":          false,
		"./a":          false,
		"\x00":         false,
		"\x00\x00":     false,
		"a\x00":        false,
		"\x00a":        false,
		"a\x00b":       false,
		".\x00":        false,
		"\xff\x00":     false,
		"\xff/":        false,
		"\xe4\xb8\x00": false, // a letter broken off
		"\xe4\xb8/":    false,
		"\xc3/":        false,
		"\xf0\x9f/a":   false,
	} {
		checkPart(t, s, want)
	}
}

// P9.2: each byte, alone, ahead of others, between them, and behind them; and each two.
func TestPartOfEachByte(t *testing.T) {
	for x := range 256 {
		s := string([]byte{byte(x)})
		may := x != '/' && x != 0
		checkPart(t, s, may && s != ".")
		for _, part := range []string{s + "a", "a" + s, "a" + s + "a", s + "\xff", "\xff" + s, "\xe4" + s + "\xb8"} {
			checkPart(t, part, may)
		}
		for y := range 256 {
			two := s + string([]byte{byte(y)})
			if got, want := names.Part(two), plainPart(two); got != want {
				t.Errorf("Part(%q) is %v, want %v", two, got, want)
			}
		}
	}
}

// P9.2: about MaxName bytes, of letters of one byte, of several, and of none.
func TestPartAboutMaxName(t *testing.T) {
	for _, fill := range []string{"x", ".", "\xff", "\u00e9", "\u4e16", "\U0001f600", "a\x80"} {
		for n := 3; n < 3*api.MaxName; n++ {
			checkPart(t, repeated(fill, n), n <= api.MaxName)
		}
		for _, n := range []int{256, api.MaxSized, api.MaxSized + 1, 1 << 22} {
			if names.Part(repeated(fill, n)) {
				t.Errorf("a part of %d bytes of %q", n, fill)
			}
		}
	}
}

// P9.2: / and 0 at any place of a part as long as may be; any other byte there may be.
func TestPartWithAByteAnywhere(t *testing.T) {
	for _, n := range []int{1, 2, 3, 40, api.MaxName - 1, api.MaxName} {
		for i := range n {
			for _, x := range []string{"/", "\x00", "0", "\x01", "\x80", "\xff", "\\"} {
				s := strings.Repeat("x", i) + x + strings.Repeat("x", n-i-1)
				checkPart(t, s, x != "/" && x != "\x00")
			}
		}
	}
}

// P9.2: the parts, in order, whatever they say.
func TestPathOfParts(t *testing.T) {
	for _, l := range [][]string{
		{"a"},
		{"a", "b"},
		{"b", "a"},
		{"a", "a", "a"},
		{"a", "bc", "def", "ghij"},
		{"...", ".a", "a.", "-"},
		{"\xff", "\x80\x80", "\u00e9", "\ufffd", "\u4e16"},
		{"heads", "main"},
		{repeated("x", api.MaxName), "y", repeated("\xff", api.MaxName)},
		{" ", "\n", "\x01", "\\"},
	} {
		checkPath(t, strings.Join(l, "/"), l)
	}
}

// P9.2: no bytes, a part without any at an end or in the middle, and a part that may not be.
func TestPathOfNone(t *testing.T) {
	for _, s := range []string{
		"", "/", "//", "///", "/a", "a/", "a//b", "/a/b", "a/b/", "a/b//", "//a", "a///b", "a/b//c",
		".", "..", "./a", "a/.", "a/./b", "../a", "a/..", "a/../b", "././.",
		"\x00", "a/\x00", "\x00/a", "a/b\x00/c", "a/b\x00c/d",
		repeated("x", api.MaxName+1), "a/" + repeated("x", api.MaxName+1), repeated("x", api.MaxName+1) + "/a", "a/" + repeated("\u00e9", api.MaxName+2) + "/b",
	} {
		checkNoPath(t, s)
	}
}

// filled is a path of n bytes, all its parts of the same length but the last, which may be shorter, or longer by one.
func filled(part string, n int) string {
	s := repeated(part+"/", n)
	if strings.HasSuffix(s, "/") {
		s = s[:n-1] + "z"
	}
	return s
}

// P9.2: about MaxSized bytes in all, of parts as short and nearly as long as may be.
func TestPathAboutMaxSized(t *testing.T) {
	for _, part := range []string{"a", "ab", "\xff", "\u4e16", repeated("x", 31), repeated("y", api.MaxName-1)} {
		for n := api.MaxSized - 70; n <= api.MaxSized+70; n++ {
			s := filled(part, n)
			want, ok := plainPath(s)
			if ok != (n <= api.MaxSized) {
				t.Fatalf("%d bytes of %q are no sample", n, part)
			}
			if !ok {
				checkNoPath(t, s)
				continue
			}
			checkPath(t, s, want)
		}
	}
	for _, n := range []int{2 * api.MaxSized, 1 << 22} {
		checkNoPath(t, filled("a", n))
		checkNoPath(t, strings.Repeat("/", n))
		checkNoPath(t, repeated("x", n))
	}
}

// P9.2: among very many parts one that may not be, the first, the last, or one between.
func TestPathOfManyPartsAndAWrongOne(t *testing.T) {
	const count = 1000
	for _, wrong := range []string{"", ".", "..", "b\x00", repeated("x", api.MaxName+1)} {
		for _, at := range []int{0, 1, count / 2, count - 2, count - 1} {
			l := slices.Repeat([]string{"ab"}, count)
			l[at] = wrong
			checkNoPath(t, strings.Join(l, "/"))
		}
	}
}

// P9.2: held against the chapter taken word by word, all texts of a few pieces.
func TestPathAsThePlainOne(t *testing.T) {
	pieces := []string{"a", ".", "/", "\x00", "\xff", "\xe4\xb8", "\u4e16", repeated("x", api.MaxName-1)}
	eachOf(pieces, 5, func(s string) {
		if got, want := names.Part(s), plainPart(s); got != want {
			t.Errorf("Part(%q) is %v, want %v", s, got, want)
		}
		got, ok := names.Path(s)
		want, wantOk := plainPath(s)
		if ok != wantOk || !slices.Equal(got, want) {
			t.Errorf("Path(%q) is %q, %v, want %q, %v", s, got, ok, want, wantOk)
		}
	})
}

// Rules 4 and 5: each answer is a list of its own, and what is done to one is not seen in the next.
func TestPathTellsNewLists(t *testing.T) {
	const s = "a/bc/d/e/f"
	want := []string{"a", "bc", "d", "e", "f"}
	for range 3 {
		first, _ := names.Path(s)
		second, _ := names.Path(s)
		all := first[:cap(first)]
		for i, x := range all {
			if i >= len(first) && x != "" {
				t.Errorf("behind the parts lies %q", x)
			}
			all[i] = "overwritten"
		}
		if !slices.Equal(second, want) {
			t.Errorf("the second list is %q", second)
		}
	}
	checkPath(t, s, want)
}

// Rule 4: no part shares memory with the path.
func TestPathKeepsNothing(t *testing.T) {
	for _, s := range []string{"abc", "abc/de", filled("ab", 300)} {
		own := strings.Clone(s)
		from := uintptr(unsafe.Pointer(unsafe.StringData(own)))
		l, _ := names.Path(own)
		for i, part := range l {
			if at := uintptr(unsafe.Pointer(unsafe.StringData(part))); from <= at && at < from+uintptr(len(own)) {
				t.Errorf("the part %d, %q, is a piece of the path", i, part)
			}
		}
		if own != s {
			t.Errorf("the path is %q", some(own))
		}
	}
}
