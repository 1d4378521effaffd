package aead_test

import (
	"bytes"
	"fmt"
	"testing"

	"coffret/aead"
	"coffret/api"
	"coffret/chacha"
	"coffret/poly"
	"coffret/sample"
)

func hex(b []byte) string {
	return fmt.Sprintf("%x", b)
}

func someKey() api.Key {
	return api.Key(sample.Text(32))
}

func someNonce() chacha.Nonce {
	return chacha.Nonce(sample.Text(12))
}

func keys() []api.Key {
	return []api.Key{{}, api.Key(sample.Ones(32)), someKey(), {0: 1}, {31: 0x80}}
}

func nonces() []chacha.Nonce {
	return []chacha.Nonce{{}, chacha.Nonce(sample.Ones(12)), someNonce(), {0: 1}, {11: 0x80}}
}

// lengths are those about multiples of 16, and some that take two bytes to tell.
func lengths() []int {
	return []int{0, 1, 15, 16, 17, 31, 32, 33, 255, 256, 300}
}

// texts are some of each length, nil too.
func texts() [][]byte {
	l := [][]byte{nil}
	for _, n := range lengths() {
		l = append(l, sample.Text(n), make([]byte, n), sample.Ones(n))
	}
	return l
}

// plainTag is the chapter's P6.1, taken word by word, with zeros counted one by one.
func plainTag(k api.Key, n chacha.Nonce, beside, sealed []byte) [16]byte {
	var whole []byte
	for _, x := range [][]byte{beside, sealed} {
		zeros := 0
		for (len(x)+zeros)%16 != 0 {
			zeros++
		}
		whole = append(append(whole, x...), make([]byte, zeros)...)
	}
	for _, x := range [][]byte{beside, sealed} {
		left := len(x)
		for range 8 {
			whole = append(whole, byte(left%256))
			left /= 256
		}
	}
	block := chacha.Block(k, n, 0)
	return poly.Sum([32]byte(block[:32]), whole)
}

// plainSeal is the chapter's P6.2.
func plainSeal(k api.Key, n chacha.Nonce, beside, text []byte) []byte {
	laid := chacha.Stream(k, n, 1, text)
	tag := plainTag(k, n, beside, laid)
	return append(laid, tag[:]...)
}

// published are the examples of RFC 8439, 2.8.2 and A.5.
func published() []example {
	return []example{
		{
			api.Key([]byte("\x80\x81\x82\x83\x84\x85\x86\x87\x88\x89\x8a\x8b\x8c\x8d\x8e\x8f\x90\x91\x92\x93\x94\x95\x96\x97\x98\x99\x9a\x9b\x9c\x9d\x9e\x9f")),
			chacha.Nonce{7, 0, 0, 0, 0x40, 0x41, 0x42, 0x43, 0x44, 0x45, 0x46, 0x47},
			"\x50\x51\x52\x53\xc0\xc1\xc2\xc3\xc4\xc5\xc6\xc7",
			"Ladies and Gentlemen of the class of '99: If I could offer you only one tip for the future, sunscreen would be it.",
			"d31a8d34648e60db7b86afbc53ef7ec2a4aded51296e08fea9e2b5a736ee62d63dbea45e8ca9671282fafb69da92728b1a71de0a9e060b2905d6a5b67ecd3b3692ddbd7f2d778b8c9803aee328091b58fab324e4fad675945585808b4831d7bc3ff4def08e4b7a9de576d26586cec64b6116",
			"1ae10b594f09e26a7e902ecbd0600691",
		},
		{
			api.Key([]byte("\x1c\x92\x40\xa5\xeb\x55\xd3\x8a\xf3\x33\x88\x86\x04\xf6\xb5\xf0\x47\x39\x17\xc1\x40\x2b\x80\x09\x9d\xca\x5c\xbc\x20\x70\x75\xc0")),
			chacha.Nonce{0, 0, 0, 0, 1, 2, 3, 4, 5, 6, 7, 8},
			"\xf3\x33\x88\x86\x00\x00\x00\x00\x00\x00\x4e\x91",
			"Internet-Drafts are draft documents valid for a maximum of six months and may be updated, replaced, or obsoleted by other documents at any time. It is inappropriate to use Internet-Drafts as reference material or to cite them other than as /\u201cwork in progress./\u201d",
			"64a0861575861af460f062c79be643bd5e805cfd345cf389f108670ac76c8cb24c6cfc18755d43eea09ee94e382d26b0bdb7b73c321b0100d4f03b7f355894cf332f830e710b97ce98c8a84abd0b948114ad176e008d33bd60f982b1ff37c8559797a06ef4f0ef61c186324e2b3506383606907b6a7c02b0f9f6157b53c867e4b9166c767b804d46a59b5216cde7a4e99040c5a40433225ee282a1b0a06c523eaf4534d7f83fa1155b0047718cbc546a0d072b04b3564eea1b422273f548271a0bb2316053fa76991955ebd63159434ecebb4e466dae5a1073a6727627097a1049e617d91d361094fa68f0ff77987130305beaba2eda04df997b714d6c6f2c29a6ad5cb4022b02709b",
			"eead9d67890cbb22392336fea1851f38",
		},
	}
}

type example struct {
	k            api.Key
	n            chacha.Nonce
	beside, text string
	laid, tag    string
}

// checkRefused tells whether a text isn't opened.
func checkRefused(t *testing.T, what string, k api.Key, n chacha.Nonce, beside, sealed []byte) {
	t.Helper()
	if b, ok := aead.Open(k, n, beside, sealed); ok || len(b) != 0 {
		t.Errorf("%s: %x beside %x was opened to %x, %v", what, sealed, beside, b, ok)
	}
}

// checkOpened tells whether a text is opened to another.
func checkOpened(t *testing.T, k api.Key, n chacha.Nonce, beside, sealed, text []byte) {
	t.Helper()
	if b, ok := aead.Open(k, n, beside, sealed); !ok || !bytes.Equal(b, text) {
		t.Errorf("%x beside %x was opened to %x, %v, want %x", sealed, beside, b, ok, text)
	}
}
