package kdf_test

import (
	"bytes"
	"fmt"
	"testing"

	"coffret/api"
	"coffret/sample"
	"coffret/sha"
)

// someKey is the key that the known keys and bytes come of.
func someKey() api.Key {
	return api.Key(sample.Text(32))
}

func hex(b []byte) string {
	return fmt.Sprintf("%x", b)
}

// checkSpared tells whether a text that Spared made is as it was.
func checkSpared(t *testing.T, what string, b, x []byte) {
	t.Helper()
	if !sample.Untouched(b, x) {
		t.Errorf("%s: handed in %x, written: %x", what, x, b)
	}
}

// plainMac is the chapter's P3.1, taken word by word: both texts are laid out whole.
func plainMac(key, whole []byte) [32]byte {
	if len(key) > 64 {
		sum := sha.Sum(key)
		key = sum[:]
	}
	padded := bytes.Clone(key)
	for len(padded) < 64 {
		padded = append(padded, 0)
	}
	var outer, inner []byte
	for _, x := range padded {
		outer = append(outer, x^0x5c)
		inner = append(inner, x^0x36)
	}
	within := sha.Sum(append(inner, whole...))
	return sha.Sum(append(outer, within[:]...))
}

// plainExpand is the chapter's P3.2, taken word by word: all the parts there may be, cut at the end.
func plainExpand(k api.Key, info []byte, n int) []byte {
	var all, last []byte
	for i := 1; i <= 255; i++ {
		whole := bytes.Join([][]byte{last, info, {byte(i)}}, nil)
		part := plainMac(k[:], whole)
		last = part[:]
		all = append(all, part[:]...)
	}
	return all[:n]
}

// plainDerive is the chapter's P3.3, taken word by word.
func plainDerive(k api.Key, word string, l ...[]byte) api.Key {
	var info []byte
	for _, x := range append([][]byte{[]byte(word)}, l...) {
		n := len(x)
		info = append(info, byte(n>>24), byte(n>>16), byte(n>>8), byte(n))
		info = append(info, x...)
	}
	return api.Key(plainExpand(k, info, 32))
}
