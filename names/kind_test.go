package names_test

import (
	"strings"
	"testing"

	"coffret/api"
	"coffret/names"
)

// beginnings are what names of references begin with, by kind.
func beginnings() map[string]int {
	return map[string]int{"heads/": names.Branch, "tags/": names.Tag}
}

// checkReferencePart tells whether a part may stand in a reference's name, at its end, in its middle, and behind other parts.
func checkReferencePart(t *testing.T, part string, may bool) {
	t.Helper()
	for begin, kind := range beginnings() {
		if !may {
			kind = names.Nothing
		}
		for _, name := range []string{begin + part, begin + part + "/b", begin + "a/" + part, begin + "a/" + part + "/b", begin + part + "/" + part} {
			checkKind(t, name, kind)
		}
	}
}

// The chapter's example 1, and the document's example 4.
func TestKindExample(t *testing.T) {
	checkKind(t, "heads/main", 1)
	checkKind(t, "heads/main", names.Branch)
	checkKind(t, "tags/v1.0", 2)
}

// P9.1: what a name begins with is its kind.
func TestKindIsTheBeginning(t *testing.T) {
	for name, want := range map[string]int{
		"heads/a":         names.Branch,
		"heads/a/b/c":     names.Branch,
		"heads/heads/a":   names.Branch,
		"heads/tags/a":    names.Branch,
		"heads/tags":      names.Branch,
		"heads/heads":     names.Branch,
		"tags/a":          names.Tag,
		"tags/a/b/c":      names.Tag,
		"tags/tags/a":     names.Tag,
		"tags/heads/a":    names.Tag,
		"tags/heads":      names.Tag,
		"":                names.Nothing,
		"a":               names.Nothing,
		"a/b":             names.Nothing,
		"heads":           names.Nothing,
		"heads/":          names.Nothing,
		"tags":            names.Nothing,
		"tags/":           names.Nothing,
		"h":               names.Nothing,
		"head":            names.Nothing,
		"head/a":          names.Nothing,
		"headsa":          names.Nothing,
		"headsa/b":        names.Nothing,
		"heads-/b":        names.Nothing,
		"heads_a":         names.Nothing,
		"eads/a":          names.Nothing,
		"tag/a":           names.Nothing,
		"tagsa":           names.Nothing,
		"tagsa/b":         names.Nothing,
		"ags/a":           names.Nothing,
		"Heads/a":         names.Nothing,
		"HEADS/a":         names.Nothing,
		"headS/a":         names.Nothing,
		"Tags/a":          names.Nothing,
		"TAGS/a":          names.Nothing,
		"notes/a":         names.Nothing,
		"refs/heads/a":    names.Nothing,
		"refs/tags/a":     names.Nothing,
		"a/heads/b":       names.Nothing,
		"a/tags/b":        names.Nothing,
		"aheads/b":        names.Nothing,
		"atags/b":         names.Nothing,
		"x-heads/b":       names.Nothing,
		" heads/b":        names.Nothing,
		"\x00heads/b":     names.Nothing,
		"\xffheads/b":     names.Nothing,
		"\ufeffheads/b":   names.Nothing,
		"he\u00ads/b":     names.Nothing,
		"heads\\a":        names.Nothing,
		"heads\u2215a":    names.Nothing,
		"heads\xc0\xafa":  names.Nothing,
		"heads/heads/":    names.Nothing,
		"tags/heads/":     names.Nothing,
		"headstags/a":     names.Nothing,
		"tagsheads/a":     names.Nothing,
		"heads.lock/a":    names.Nothing,
		"heads/a\nheads/": names.Nothing,
	} {
		checkKind(t, name, want)
	}
}

// P9.1: a part without a byte, at an end or in the middle.
func TestKindOfEmptyParts(t *testing.T) {
	for begin, kind := range beginnings() {
		checkKind(t, begin+"a/b", kind)
		for _, name := range []string{begin, begin + "/", begin + "//", "/" + begin + "a", "/" + begin, "//" + begin + "a", begin + "a/", begin + "a//", begin + "/a", begin + "//a", begin + "a//b", begin + "a/b/", begin + "a/b//c", begin + "a///b", begin + "/a/"} {
			checkKind(t, name, names.Nothing)
		}
	}
	for _, name := range []string{"/", "//", "/heads", "/tags", "/a/b"} {
		checkKind(t, name, names.Nothing)
	}
}

// P9.1: at MaxName bytes in all, and about it, in one part and in several; what may not be stays so.
func TestKindAboutMaxName(t *testing.T) {
	for begin, kind := range beginnings() {
		for _, fill := range []string{"x", "ab/", "a/", "0-_/", "Zz.9/"} {
			for n := len(begin) + 1; n < 3*api.MaxName; n++ {
				name := begin + repeated(fill, n-len(begin))
				want := kind
				if n > api.MaxName || strings.HasSuffix(name, "/") || strings.HasSuffix(name, ".") {
					want = names.Nothing
				}
				checkKind(t, name, want)
			}
		}
		for _, n := range []int{api.MaxSized, api.MaxSized + 1, 1 << 22} {
			checkKind(t, begin+repeated("x", n), names.Nothing)
			checkKind(t, begin+repeated("x/", n)+"y", names.Nothing)
			checkKind(t, begin+strings.Repeat("/", n), names.Nothing)
		}
		full := begin + repeated("x", api.MaxName-len(begin))
		for i := len(begin); i < len(full); i++ {
			checkKind(t, full[:i]+"\x80"+full[i+1:], names.Nothing)
			checkKind(t, full[:i]+" "+full[i+1:], names.Nothing)
		}
		checkKind(t, full[:len(full)-5]+".lock", names.Nothing)
		checkKind(t, full[:len(full)-5]+".lick", kind)
	}
	checkKind(t, repeated("x", api.MaxName), names.Nothing)
	checkKind(t, repeated("x", api.MaxName+1), names.Nothing)
}

// P9.1: letters that take several bytes count as these, which may not be anyway.
func TestKindCountsBytes(t *testing.T) {
	for _, letter := range []string{"\u00e9", "\u4e16", "\U0001f600", "\ufffd"} {
		for n := range api.MaxName {
			checkKind(t, "heads/"+strings.Repeat(letter, n+1), names.Nothing)
		}
	}
}

// P9.1: each byte, alone, ahead of others, between them, and behind them.
func TestKindOfEachByte(t *testing.T) {
	for x := range 256 {
		s := string([]byte{byte(x)})
		if s == "/" {
			continue
		}
		may := strings.Contains(mayStand, s)
		checkReferencePart(t, s, may && s != "-" && s != ".")
		checkReferencePart(t, s+"a", may && s != "-" && s != ".")
		checkReferencePart(t, "a"+s, may && s != ".")
		checkReferencePart(t, "a"+s+"a", may)
	}
}

// P9.1: one after the other in parts of two bytes; also bytes that are no text of UTF-8.
func TestKindOfEachTwoBytes(t *testing.T) {
	for x := range 256 {
		for y := range 256 {
			name := "tags/" + string([]byte{byte(x), byte(y)})
			if got, want := names.Kind(name), plainKind(name); got != want {
				t.Errorf("Kind(%q) is %d, want %d", name, got, want)
			}
		}
	}
}

// P9.1: letters that are none of a to z, though they look like one, or have its number modulo 256.
func TestKindOfOtherLetters(t *testing.T) {
	for _, letter := range []rune{0xaa, 0xdf, 0xe9, 0x130, 0x131, 0x142, 0x161, 0x17f, 0x212a, 0x22d, 0x22e, 0x25f, 0x261, 0x430, 0x660, 0xff0e, 0xff21, 0xff41, 0xfffd, 0x1d400, 0x10061, 0x10ffff} {
		for _, part := range []string{string(letter), "a" + string(letter), string(letter) + "a", "a" + string(letter) + "a"} {
			checkReferencePart(t, part, false)
		}
	}
	for _, broken := range []string{"\x80", "\xbf", "\xc3", "\xc1\xa1", "\xe0\x81\xa1", "\xed\xa0\x80", "\xf4\x90\x80\x80", "\xff\xfe", "\xe4\xb8"} {
		for _, part := range []string{broken, "a" + broken, broken + "a", "a" + broken + "a"} {
			checkReferencePart(t, part, false)
		}
	}
}

// P9.1: - and . at the ends of a part, and two . one behind the other.
func TestKindOfDotsAndDashes(t *testing.T) {
	for part, may := range map[string]bool{
		"-":       false,
		"--":      false,
		"-a":      false,
		"-.a":     false,
		"a-":      true,
		"a--":     true,
		"a--b":    true,
		"a-.b":    true,
		"a.-b":    true,
		"a.-":     true,
		"_":       true,
		"_a":      true,
		"_-":      true,
		"_.a":     true,
		"__":      true,
		".":       false,
		"..":      false,
		"...":     false,
		".a":      false,
		".-a":     false,
		"..a":     false,
		"a.":      false,
		"a..":     false,
		"a-.":     false,
		"a.b":     true,
		"a.b.c":   true,
		"a.b.":    false,
		"a..b":    false,
		"a...b":   false,
		"a.b..c":  false,
		"a..b.c":  false,
		"a.b.c.d": true,
		"0":       true,
		"0.0":     true,
		"9-_":     true,
		"v1.0":    true,
	} {
		checkReferencePart(t, part, may)
	}
}

// P9.1: a . or a - at the end of one part is not held against the next one's beginning.
func TestKindHoldsPartsApart(t *testing.T) {
	checkKind(t, "heads/a-/b", names.Branch)
	checkKind(t, "heads/a.b/c.d", names.Branch)
	checkKind(t, "heads/a./.b", names.Nothing)
	checkKind(t, "heads/a./b", names.Nothing)
	checkKind(t, "heads/a/.b", names.Nothing)
	checkKind(t, "heads/a/-b", names.Nothing)
	checkKind(t, "heads/a.lo/ck", names.Branch)
	checkKind(t, "heads/a/lock", names.Branch)
	checkKind(t, "heads/a./lock", names.Nothing)
}

// P9.1: ".lock" at the end of a part, and what nearly is it.
func TestKindOfLock(t *testing.T) {
	for part, may := range map[string]bool{
		".lock":       false,
		"a.lock":      false,
		"-a.lock":     false,
		"a..lock":     false,
		"a.lock.lock": false,
		"lock.lock":   false,
		"a-.lock":     false,
		"_.lock":      false,
		"lock":        true,
		"alock":       true,
		"a-lock":      true,
		"a_lock":      true,
		"a.lock-":     true,
		"a.lock.":     false,
		"a.lock.b":    true,
		"a.lockb":     true,
		"a.locks":     true,
		"a.lockk":     true,
		"a.loc":       true,
		"a.ock":       true,
		"a.block":     true,
		"a.LOCK":      true,
		"a.Lock":      true,
		"a.locK":      true,
		"a.l-ock":     true,
		"a.l.ock":     true,
		"lock.a":      true,
		"a.lock ":     false,
		"a.lock\x00":  false,
		"a.loc\xeb":   false,
		"a.loc\u212a": false,
	} {
		checkReferencePart(t, part, may)
	}
}

// P9.1: held against the chapter taken word by word, all names of a few pieces.
func TestKindAsThePlainOne(t *testing.T) {
	check := func(s string) {
		if got, want := names.Kind(s), plainKind(s); got != want {
			t.Errorf("Kind(%q) is %d, want %d", s, got, want)
		}
	}
	pieces := []string{"a", "Z", "5", "-", "_", ".", "/", ".lock", " ", "\xff", "\u00e9"}
	eachOf(pieces, 4, func(s string) {
		check("heads/" + s)
		check("tags/" + s)
	})
	eachOf([]string{"heads", "tags", "/", "a", ".", "-"}, 6, check)
}
