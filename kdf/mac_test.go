package kdf_test

import (
	"bytes"
	"strings"
	"testing"

	"coffret/kdf"
	"coffret/sample"
	"coffret/sha"
)

// P3.1: by keys of lengths about a block's, from another program.
func TestMacIsAsKnown(t *testing.T) {
	for _, c := range []struct {
		n   int
		mac string
	}{
		{0, "44bea4f5fb035339650fed154351cff25876bc134759cd5a7c9aa34e3628720f"},
		{1, "4b4f168bc9cdc51018fc5c890be8d62ed3a3f44f5b0bc0535cfd895ccbc39f50"},
		{31, "ce27506fdd2a6a1b05ac9e059bcc41ae52a595e802cd6ccb9fde8e33e4c051f7"},
		{32, "2d13ba10756032c428b25137ec6fb47b3b79ca3128cc78b5cdc79683398e3edc"},
		{33, "23afc1747034a83e8891ed27999f70ad6fde547b4730684a3347666c717f8144"},
		{63, "92cfcfb40af9fc31ee803f658e6ac414cc888441991f8d324b174b353cb1c186"},
		{64, "d7be198cef196f0a05631b1621e459fd4d898c510c6015877a849d17eebb87d5"},
		{65, "db80796f4b791b15b23504282307bb95a6cb6f4dd05f5bbdce711d9132ed0d7e"},
		{66, "92abfe081f8e72f4156e55beb14fc189077f291d8d363638cbbfd4af967d4084"},
		{127, "f5692d6ff49b708cb9cf18195f0b3218bca08aec99bc55693cdc959aff66f94d"},
		{128, "5b74c9a248d9eb313f0417c08f9a4d19d587c05e0defd0dd6c517937f0eb62ca"},
		{129, "f7810894971821df8e6d27ce8b0298f571504ab48a77bfc637e6b4980c29975a"},
		{200, "4590a5cb9b18f7a9f1564c5d113269b387e0ef8a222c0fe9624c94363f4ab6e4"},
		{1000, "7310f03945e30039264835c299495c3d70103c8abebf9a685103a21a35b455af"},
	} {
		if got := kdf.Mac(sample.Text(c.n), []byte("what is told")); hex(got[:]) != c.mac {
			t.Errorf("Mac by a key of %d bytes: %x, want %s", c.n, got, c.mac)
		}
	}
}

// P3.1: the chapter's example, and the other ones of RFC 4231.
func TestMacOfKnownTexts(t *testing.T) {
	for _, c := range []struct{ key, text, mac string }{
		{"Jefe", "what do ya want for nothing?", "5bdcc146bf60754e6a042426089575c75a003f089d2739839dec58b964ec3843"},
		{strings.Repeat("\x0b", 20), "Hi There", "b0344c61d8db38535ca8afceaf0bf12b881dc200c9833da726e9376c2e32cff7"},
		{strings.Repeat("\xaa", 20), strings.Repeat("\xdd", 50), "773ea91e36800e46854db8ebd09181a72959098b3ef8c122d9635514ced565fe"},
		{"\x01\x02\x03\x04\x05\x06\x07\x08\x09\x0a\x0b\x0c\x0d\x0e\x0f\x10\x11\x12\x13\x14\x15\x16\x17\x18\x19", strings.Repeat("\xcd", 50), "82558a389a443c0ea4cc819899f2083a85f0faa3e578f8077a2e3ff46729665b"},
		{strings.Repeat("\x0c", 20), "Test With Truncation", "a3b6167473100ee06e0c796c2955552bfa6f7c0a6a8aef8b93f860aab0cd20c5"},
		{strings.Repeat("\xaa", 131), "Test Using Larger Than Block-Size Key - Hash Key First", "60e431591ee0b67f0d8a26aacbf5b77f8e0bc6213728c5140546040f0ee37f54"},
		{strings.Repeat("\xaa", 131), "This is a test using a larger than block-size key and a larger than block-size data. The key needs to be hashed before being used by the HMAC algorithm.", "9b09ffa71b942fcb27635fbcd5b0e944bfdc63644f0713938a7f51535c3a35e2"},
		{"", "", "b613679a0814d9ec772f95d778c35fc5ff1697c493715653c6c712144292c5ad"},
	} {
		if got := kdf.Mac([]byte(c.key), []byte(c.text)); hex(got[:]) != c.mac {
			t.Errorf("Mac of %q by %q: %x, want %s", c.text, c.key, got, c.mac)
		}
	}
}

// P3.1: every length of a key over two blocks, and of a text, held against the chapter's words taken plainly.
func TestMacIsAsTheChapterSays(t *testing.T) {
	for n := range 2*sha.Block + 3 {
		for _, key := range [][]byte{sample.Text(n), make([]byte, n), sample.Ones(n)} {
			for _, m := range []int{0, 1, 55, 56, 64, 65, n} {
				if got, want := kdf.Mac(key, sample.Text(m)), plainMac(key, sample.Text(m)); got != want {
					t.Fatalf("Mac of %d bytes by %x: %x, want %x", m, key, got, want)
				}
			}
		}
	}
}

// P3.1: a text in several parts is the same text, and no text is as one of no bytes.
func TestMacOfTextsInParts(t *testing.T) {
	for _, l := range [][][]byte{
		nil,
		{},
		{nil},
		{{}},
		{nil, {}, nil},
		{[]byte("abc")},
		{[]byte("a"), []byte("bc")},
		{[]byte("ab"), nil, []byte("c")},
		{{}, []byte("abc"), {}},
		{[]byte("c"), []byte("b"), []byte("a")},
		{sample.Text(63), sample.Text(1), sample.Text(64), sample.Text(65)},
		{sample.Text(1), sample.Text(200), sample.Text(3), nil, sample.Text(56)},
	} {
		for _, key := range [][]byte{nil, {}, []byte("k"), sample.Text(64), sample.Text(65)} {
			if got, want := kdf.Mac(key, l...), plainMac(key, bytes.Join(l, nil)); got != want {
				t.Errorf("Mac of %d texts %x by %d bytes: %x, want %x", len(l), l, len(key), got, want)
			}
		}
	}
	if kdf.Mac(nil) != kdf.Mac([]byte{}, []byte{}) {
		t.Error("Mac of no text is not that of no bytes")
	}
}

// P3.1: a text cut at every two places comes to the same.
func TestMacCutAnywhere(t *testing.T) {
	const n = sha.Block + 3
	b := sample.Text(n)
	want := plainMac([]byte("key"), b)
	for i := range n + 1 {
		for j := i; j <= n; j++ {
			if kdf.Mac([]byte("key"), b[:i], b[i:j], b[j:]) != want {
				t.Fatalf("cut at %d and %d it is another", i, j)
			}
		}
	}
}

// P3.1: zeros stand behind a key up to a block, so that those a key ends with make no other there; beyond a block they do.
func TestMacByKeysThatEndWithZeros(t *testing.T) {
	for n := range sha.Block + 1 {
		key := append(sample.Text(n), make([]byte, sha.Block+1-n)...)
		want := kdf.Mac(key[:n], []byte("x"))
		for m := n; m <= sha.Block; m++ {
			if kdf.Mac(key[:m], []byte("x")) != want {
				t.Fatalf("a key of %d bytes and %d zeros behind them is another", n, m-n)
			}
		}
		if kdf.Mac(key, []byte("x")) == want {
			t.Fatalf("a key of %d bytes counts as one of %d", len(key), n)
		}
	}
}

// P3.1: a key beyond a block is taken as its sum; one of a block is not.
func TestMacByAKeysSum(t *testing.T) {
	for _, n := range []int{63, 64, 65, 66, 128, 500} {
		sum := sha.Sum(sample.Text(n))
		same := kdf.Mac(sample.Text(n), []byte("x")) == kdf.Mac(sum[:], []byte("x"))
		if same != (n > sha.Block) {
			t.Errorf("a key of %d bytes is taken as its sum: %v", n, same)
		}
	}
}

// P3.1: each byte of the key and of the text counts, and the order of the texts.
func TestMacHangsOnEveryByte(t *testing.T) {
	for _, n := range []int{1, 32, 63, 64, 65, 130} {
		key, b := sample.Text(n), sample.Text(n)
		met := map[[32]byte]int{kdf.Mac(key, b): 0}
		for i := range n {
			key[i] ^= 1
			met[kdf.Mac(key, b)] = i
			key[i] ^= 1
			b[i] ^= 1
			met[kdf.Mac(key, b)] = i
			b[i] ^= 1
		}
		if len(met) != 2*n+1 {
			t.Errorf("%d bytes: %d come of it, want %d", n, len(met), 2*n+1)
		}
	}
	if kdf.Mac(nil, []byte("a"), []byte("b")) == kdf.Mac(nil, []byte("b"), []byte("a")) {
		t.Error("Mac does not hang on the order")
	}
}

// What is handed in is as it was, its spare room too, and what lies there is not read.
func TestMacTouchesNothing(t *testing.T) {
	for _, n := range []int{0, 1, 63, 64, 65, 150} {
		key, x, y := sample.Spared(sample.Text(n)), sample.Spared(sample.Text(n/2)), sample.Spared(sample.Text(3*n))
		l := [][]byte{x, y, []byte("spare")}
		got := kdf.Mac(key, l[:2]...)
		if want := plainMac(sample.Text(n), append(sample.Text(n/2), sample.Text(3*n)...)); got != want {
			t.Errorf("by %d bytes: %x, want %x", n, got, want)
		}
		checkSpared(t, "key", key, sample.Text(n))
		checkSpared(t, "first text", x, sample.Text(n/2))
		checkSpared(t, "second text", y, sample.Text(3*n))
		if len(l[0]) != n/2 || len(l[1]) != 3*n || string(l[2]) != "spare" {
			t.Error("the list of texts was changed")
		}
	}
}

// A key and texts may lie in one memory.
func TestMacOfOneMemory(t *testing.T) {
	b := sample.Text(100)
	if kdf.Mac(b[:70], b[10:90], b[:5]) != plainMac(sample.Text(70), append(sample.Text(90)[10:], sample.Text(5)...)) {
		t.Error("it is another")
	}
	if !bytes.Equal(b, sample.Text(100)) {
		t.Error("the bytes were changed")
	}
}
