package names_test

import (
	"slices"
	"strings"
	"testing"

	"coffret/api"
	"coffret/names"
)

const (
	letters  = "abcdefghijklmnopqrstuvwxyzABCDEFGHIJKLMNOPQRSTUVWXYZ"
	digits   = "0123456789"
	mayStand = letters + digits + "-_." // in a part of a reference's name
)

// plainKind is the chapter's P9.1, taken word by word, over bytes.
func plainKind(name string) int {
	kind := names.Nothing
	if len(name) >= 6 && name[:6] == "heads/" {
		kind = names.Branch
	}
	if len(name) >= 5 && name[:5] == "tags/" {
		kind = names.Tag
	}
	if len(name) > 64 {
		return names.Nothing
	}
	for _, part := range strings.Split(name, "/") {
		if !plainReferencePart(part) {
			return names.Nothing
		}
	}
	return kind
}

func plainReferencePart(s string) bool {
	n := len(s)
	if n < 1 {
		return false
	}
	for i := range n {
		if strings.IndexByte(mayStand, s[i]) < 0 {
			return false
		}
		if i > 0 && s[i-1] == '.' && s[i] == '.' {
			return false
		}
	}
	return s[0] != '-' && s[0] != '.' && s[n-1] != '.' && !(n >= 5 && s[n-5:] == ".lock")
}

// plainPart is the chapter's P9.2 of Part, taken word by word, over bytes.
func plainPart(s string) bool {
	for i := range len(s) {
		if s[i] == '/' || s[i] == 0 {
			return false
		}
	}
	return 1 <= len(s) && len(s) <= 64 && s != "." && s != ".."
}

// plainPath is the chapter's P9.2 of Path, taken word by word.
func plainPath(s string) ([]string, bool) {
	if len(s) > 65536 {
		return nil, false
	}
	l := strings.Split(s, "/")
	for _, part := range l {
		if !plainPart(part) {
			return nil, false
		}
	}
	return l, true
}

// plainLess is the chapter's P9.3, taken word by word.
func plainLess(a, b string) bool {
	for i := range min(len(a), len(b)) {
		if a[i] != b[i] {
			return int(a[i]) < int(b[i])
		}
	}
	return len(a) < len(b)
}

// eachOf hands out all texts of at most so many of the pieces, one behind the other.
func eachOf(pieces []string, most int, use func(s string)) {
	texts := []string{""}
	for n := 0; ; n++ {
		for _, s := range texts {
			use(s)
		}
		if n == most {
			return
		}
		var longer []string
		for _, s := range texts {
			for _, piece := range pieces {
				longer = append(longer, s+piece)
			}
		}
		texts = longer
	}
}

// some is the beginning of a text, short enough to be shown.
func some(s string) string {
	return s[:min(len(s), 100)]
}

// repeated is a text over and over, cut off behind n bytes.
func repeated(s string, n int) string {
	return strings.Repeat(s, n/len(s)+1)[:n]
}

// checkKind tells whether a name is of a kind, asked twice.
func checkKind(t *testing.T, name string, want int) {
	t.Helper()
	for range 2 {
		if got := names.Kind(name); got != want {
			t.Errorf("Kind(%q), %d bytes, is %d, want %d", some(name), len(name), got, want)
		}
	}
}

// checkPart tells whether Part says so of a text, and Path the same of a path of it alone, or of it among others, unless it has a slash.
func checkPart(t *testing.T, s string, want bool) {
	t.Helper()
	if got := names.Part(s); got != want {
		t.Errorf("Part(%q), %d bytes, is %v, want %v", some(s), len(s), got, want)
	}
	if strings.Contains(s, "/") {
		return
	}
	for _, l := range [][]string{{s}, {s, "b"}, {"a", s}, {"a", s, "b"}, {s, s}} {
		if !want {
			checkNoPath(t, strings.Join(l, "/"))
			continue
		}
		checkPath(t, strings.Join(l, "/"), l)
	}
}

// checkPath tells whether a path has these parts.
func checkPath(t *testing.T, s string, want []string) {
	t.Helper()
	if got, ok := names.Path(s); !ok || !slices.Equal(got, want) {
		t.Errorf("Path(%q), %d bytes, has %d parts, %v, want %d", some(s), len(s), len(got), ok, len(want))
	}
}

// checkNoPath tells whether a text is no path, and nothing is told beside that.
func checkNoPath(t *testing.T, s string) {
	t.Helper()
	if got, ok := names.Path(s); ok || len(got) != 0 {
		t.Errorf("Path(%q), %d bytes, has %d parts, %v, and is none", some(s), len(s), len(got), ok)
	}
}

// checkFirst tells whether a is ahead of b, b not ahead of a, and neither ahead of itself.
func checkFirst(t *testing.T, a, b string) {
	t.Helper()
	if !names.Less(a, b) || names.Less(b, a) {
		t.Errorf("%q and %q: %v, %v", some(a), some(b), names.Less(a, b), names.Less(b, a))
	}
	if names.Less(a, a) || names.Less(b, b) {
		t.Errorf("%q or %q is ahead of itself", some(a), some(b))
	}
}

// The limits that the plain forms above have as numbers are those of api, and the kinds those of the document.
func TestPlainLimits(t *testing.T) {
	if api.MaxName != 64 || api.MaxSized != 65536 {
		t.Error("the limits are others")
	}
	if names.Nothing != 0 || names.Branch != 1 || names.Tag != 2 {
		t.Error("the kinds are others")
	}
}
