package kdf_test

import (
	"strings"
	"testing"

	"coffret/api"
	"coffret/kdf"
	"coffret/sample"
)

// texts makes texts of words.
func texts(words ...string) [][]byte {
	var l [][]byte
	for _, w := range words {
		l = append(l, []byte(w))
	}
	return l
}

// P3.3: from another program.
func TestDeriveIsAsKnown(t *testing.T) {
	for _, c := range []struct {
		word string
		l    [][]byte
		key  string
	}{
		{"", nil, "9704c6edcd18014c25cddf5ff2e21170f728f142028c61cef4e825bdadd476ab"},
		{"word", nil, "7c0163ef61a293cfa51fd44662c2b4593a37d55c09d3addf31852eed593372e4"},
		{"word", [][]byte{}, "7c0163ef61a293cfa51fd44662c2b4593a37d55c09d3addf31852eed593372e4"},
		{"", [][]byte{nil}, "821324a280cff1c191ba2e1f60c1e379ce0f7cd984ba55b32954d7d61c809959"},
		{"word", [][]byte{{}}, "8cd4acb6b492f93a2e84a7b6a40362257aa12b4452204d59174fbe2b10173c0c"},
		{"word", [][]byte{nil}, "8cd4acb6b492f93a2e84a7b6a40362257aa12b4452204d59174fbe2b10173c0c"},
		{"word", [][]byte{nil, {}}, "3604e694bcfda2e8015fd6cb44ebb971f4a7e8b3c2effdb3a12e9cbd593b717a"},
		{"a", texts("bc"), "42711aef22f33069a3ba42702e07f73062b66762f231c1339571018bbf7baa4e"},
		{"ab", texts("c"), "a04df9f8c820831ebb2d744f204467875a2738f2af3d3c549f6f58677df6e35f"},
		{"word", texts("one", "two", "three"), "73c5b1deea74c57b20f19aae81f62f35a86e9fdebb0c4752715420161c102e2c"},
		{strings.Repeat("w", 300), [][]byte{sample.Text(1000)}, "8c4286ddd7eb5eeac76ebbb4b228811cfe27f22fd74984a63728279d094d9761"},
		{"\xc3\xa9\x00\xff", texts("\x00"), "854ca3a4d5d721d125c255c7d20a1932ab464b4d62d753bba408fa9adc447cc1"},
		{"word", [][]byte{sample.Text(api.MaxSized + 1)}, "f70d415f158f0dcc3368d83cf8d41a8765fd818ba4fff00648f3c5a5a706c57a"},
	} {
		if k := kdf.Derive(someKey(), c.word, c.l...); hex(k[:]) != c.key {
			t.Errorf("Derive(%.20q, %d texts) = %x, want %s", c.word, len(c.l), k, c.key)
		}
	}
}

// P3.3: held against the chapter's words taken plainly, by several keys.
func TestDeriveIsAsTheChapterSays(t *testing.T) {
	for _, k := range []api.Key{{}, someKey(), kdf.Derive(someKey(), "next")} {
		for _, word := range []string{"", "w", "word", string(sample.Text(70)), "\xff\xfe"} {
			for _, l := range [][][]byte{nil, {nil}, {{}, nil, {}}, texts("a", "", "b"), {sample.Text(64), sample.Text(65), sample.Text(1)}, {sample.Text(300)}} {
				if got, want := kdf.Derive(k, word, l...), plainDerive(k, word, l...); got != want {
					t.Errorf("Derive(%x, %q, %x) = %x, want %x", k, word, l, got, want)
				}
			}
		}
	}
}

// P3.3: a word and texts are told apart from others that would run into the same bytes.
func TestDeriveTellsTextsApart(t *testing.T) {
	k := someKey()
	tellings := []struct {
		word string
		l    [][]byte
	}{
		{"", nil},
		{"", texts("")},
		{"", texts("", "")},
		{"abc", nil},
		{"abc", texts("")},
		{"", texts("abc")},
		{"a", texts("bc")},
		{"ab", texts("c")},
		{"a", texts("b", "c")},
		{"a", texts("c", "b")},
		{"a", texts("b", "", "c")},
		{"a", texts("b", "c", "")},
		{"a", texts("", "b", "c")},
		{"abc\x00\x00\x00\x00", nil},
		{"a", texts("b\x00\x00\x00\x01c")},
	}
	met := map[api.Key]int{k: -1, {}: -2}
	for i, c := range tellings {
		d := kdf.Derive(k, c.word, c.l...)
		if j, ok := met[d]; ok {
			t.Errorf("tellings %d and %d come to one key", j, i)
		}
		met[d] = i
		if d == kdf.Derive(api.Key{}, c.word, c.l...) {
			t.Errorf("telling %d does not hang on the key", i)
		}
	}
}

// P3.3: very many texts are taken in.
func TestDeriveOfManyTexts(t *testing.T) {
	var l [][]byte
	for i := range 70000 {
		l = append(l, sample.Text(i%3))
	}
	if kdf.Derive(someKey(), "many", l...) != plainDerive(someKey(), "many", l...) {
		t.Error("of many texts it is another")
	}
}

// What is handed in is as it was, its spare room too, and what lies there is not read.
func TestDeriveTouchesNothing(t *testing.T) {
	for _, n := range []int{0, 1, 64, 150} {
		k, x, y := someKey(), sample.Spared(sample.Text(n)), sample.Spared(sample.Text(n+1))
		l := [][]byte{x, y, []byte("spare")}
		if kdf.Derive(k, "word", l[:2]...) != plainDerive(k, "word", sample.Text(n), sample.Text(n+1)) {
			t.Errorf("at %d bytes it is another", n)
		}
		checkSpared(t, "first text", x, sample.Text(n))
		checkSpared(t, "second text", y, sample.Text(n+1))
		if k != someKey() || len(l[0]) != n || len(l[1]) != n+1 || string(l[2]) != "spare" {
			t.Error("the key or the list was changed")
		}
	}
}
