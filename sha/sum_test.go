package sha_test

import (
	"bytes"
	"fmt"
	"strings"
	"testing"

	"coffret/sample"
	"coffret/sha"
)

// hex is a sum as it is written down.
func hex(sum [32]byte) string {
	return fmt.Sprintf("%x", sum[:])
}

// known are sums of sample.Text(n), from another program, at the edges of a block and between them.
var known = []struct {
	n   int
	sum string
}{
	{0, "e3b0c44298fc1c149afbf4c8996fb92427ae41e4649b934ca495991b7852b855"},
	{1, "084fed08b978af4d7d196a7446a86b58009e636b611db16211b65a9aadff29c5"},
	{3, "6ab0dba1f4f1dfbb37b4f9eeb092c09fca4900ad32bdcd147d8dde35d6c87c35"},
	{54, "160bbf14b458c877b7049e7cb5771dd653930f97d20bdd8ee795c16062906233"},
	{55, "e7313d333c272e639f790978283f9eb392e843d0f29b7016828bb1daa4aac70b"},
	{56, "4324d65f3c103567f5589c710bc08f8523f929a9272e3af36fc968e52abc6c27"},
	{57, "35df609437dcfea3279283ab79fd554e2bf78f8f7ae2de532d8ee300b09e8f73"},
	{63, "81c80242132f230c3bd41b3e63bbcff16107339549214a99614ff26664625055"},
	{64, "39e3d7b6b5d075d37d053ad89b24b41bef4f3c29760c84447cab3f3be1882241"},
	{65, "aacca6ff74fdbb296d165a45cecfa04e5127bc008770fbbdd48006f2d2fae95e"},
	{118, "2c49b89c5aaaaaa69ae70251cc0803f14afaf1a2caa461fa6b083750bc07ce88"},
	{119, "9ce7368e4daf32341631b492e80359dc9f594b48453cd0dd5bf0b19279cc177e"},
	{120, "7836b787757e95e58b3ca5aec90b1b004e8deba1e50e9675af9cabf1a13a04b5"},
	{121, "1189a98a00c71bc1848ea8bdc9700b442bee0be7c3f45172303f1ab0b6f1617e"},
	{127, "a8d23e75d936f303d248888d9b165ee543f4cbafcad3c9dd2a79bd84faa11d07"},
	{128, "d2742f1f4ac6bb7ca2b239ee18402ba8b3f9f8e652d2a72973c2b9ba11c08cf6"},
	{129, "307f8fc2c1622b92762e818d39a185d4d667ad49a4b07ceae1f4afa008a93ec4"},
	{183, "80e7b84a99c797730865825b4614ead40b157674e54de7f6b07361f10317b866"},
	{184, "9104901c5fb45016420078acb248323481f2389bc96f790fe692f5a81ca358fe"},
	{191, "52be17f8f5d0b166f3b1917d2b6bb862083001967fd0aa39d2da9947eeba437d"},
	{192, "ec6732214091fa8455ee2251fb756475b04ec62610fbceaa64218a11faf571cd"},
	{193, "c2e8235fc1c184c4f889cc8e481540dd11356b65b7c3bf4a0443f6be2851dcd5"},
	{1000, "1e9bc38cbf860b9ec31918b065f9b52476c549a782e0e7990bed8ce3868d2371"},
	{8192, "79a68194a5a1dc354264d70a556ff0a6acf1478d589a98cbb22bbb81fe55b5e5"},
}

func TestSizes(t *testing.T) {
	if sha.Size != 32 || sha.Block != 64 {
		t.Errorf("Size %d, Block %d", sha.Size, sha.Block)
	}
}

// P2.1: Sum.
func TestSumIsAsKnown(t *testing.T) {
	for _, c := range known {
		if got := hex(sha.Sum(sample.Text(c.n))); got != c.sum {
			t.Errorf("Sum of %d bytes: %s, want %s", c.n, got, c.sum)
		}
	}
}

// P2.1: the chapter's example, and texts that others give as examples.
func TestSumOfKnownTexts(t *testing.T) {
	for _, c := range []struct{ text, sum string }{
		{"", "e3b0c44298fc1c149afbf4c8996fb92427ae41e4649b934ca495991b7852b855"},
		{"abc", "ba7816bf8f01cfea414140de5dae2223b00361a396177a9cb410ff61f20015ad"},
		{"abcdbcdecdefdefgefghfghighijhijkijkljklmklmnlmnomnopnopq", "248d6a61d20638b8e5c026930c3e6039a33ce45964ff2167f6ecedd419db06c1"},
		{"abcdefghbcdefghicdefghijdefghijkefghijklfghijklmghijklmnhijklmnoijklmnopjklmnopqklmnopqrlmnopqrsmnopqrstnopqrstu", "cf5b16a778af8380036ce59e7b0492370b249b11e8f07a51afac45037afee9d1"},
		{strings.Repeat("a", 1000000), "cdc76e5c9914fb9281a1c7e284d73e67f1809a48a497200e046d39ccc7112cd0"},
	} {
		if got := hex(sha.Sum([]byte(c.text))); got != c.sum {
			t.Errorf("Sum of %d bytes %.20q: %s, want %s", len(c.text), c.text, got, c.sum)
		}
	}
}

// P2.1: every length over several blocks, held against the chapter's words taken plainly.
func TestSumIsAsTheChapterSays(t *testing.T) {
	for n := range 4*sha.Block + 2 {
		for _, b := range [][]byte{sample.Text(n), make([]byte, n), sample.Ones(n)} {
			if got, want := sha.Sum(b), plainSum(b); got != want {
				t.Fatalf("Sum of %d bytes %x: %x, want %x", n, b, got, want)
			}
		}
	}
}

// P2.1: each byte of a text counts, and so does its length.
func TestSumHangsOnEveryByte(t *testing.T) {
	for _, n := range []int{1, 55, 56, 63, 64, 65, 130} {
		b := sample.Text(n)
		met := map[[32]byte]int{sha.Sum(b): -1, sha.Sum(append(sample.Text(n), 0)): -2, sha.Sum(b[:n-1]): -3}
		for i := range b {
			b[i] ^= 1
			met[sha.Sum(b)] = i
			b[i] ^= 1
		}
		if len(met) != n+3 {
			t.Errorf("%d bytes: %d sums, want %d", n, len(met), n+3)
		}
	}
}

// P2.1: nil is a text of no bytes.
func TestSumOfNil(t *testing.T) {
	none := plainSum(nil)
	if sha.Sum(nil) != none || sha.Sum([]byte{}) != none {
		t.Error("Sum of nothing is another")
	}
}

// P2.1: Of.
func TestOfIsTheSumOfAllBehindEachOther(t *testing.T) {
	for _, l := range [][][]byte{
		nil,
		{},
		{nil},
		{{}},
		{nil, {}, nil},
		{[]byte("abc")},
		{[]byte("a"), []byte("bc")},
		{[]byte("ab"), nil, []byte("c")},
		{{}, []byte("abc"), {}},
		{[]byte("c"), []byte("b"), []byte("a")},
		{sample.Text(55), sample.Text(1)},
		{sample.Text(63), sample.Text(1), sample.Text(64), sample.Text(65)},
		{sample.Text(64), sample.Text(64)},
		{sample.Text(1), sample.Text(200), sample.Text(3), nil, sample.Text(56)},
	} {
		whole := bytes.Join(l, nil)
		if got, want := sha.Of(l...), plainSum(whole); got != want {
			t.Errorf("Of of %d texts %x: %x, want %x", len(l), whole, got, want)
		}
	}
	if sha.Of() != sha.Sum(nil) {
		t.Error("Of of no text is not the sum of no bytes")
	}
	if sha.Of([]byte("a"), []byte("b")) == sha.Of([]byte("b"), []byte("a")) {
		t.Error("Of does not hang on the order")
	}
}

// What is handed in is as it was, its spare room too, and what lies there is not read.
func TestNothingHandedInIsTouched(t *testing.T) {
	for _, n := range []int{0, 1, 55, 56, 63, 64, 65, 150} {
		b := append(sample.Text(n), bytes.Repeat([]byte{0xEE}, 200)...)
		l := [][]byte{b[:n], b[:n/2], []byte("spare")}
		h := sha.New()
		h.Write(b[:n])
		h.Sum()
		sums := [][32]byte{sha.Sum(b[:n]), sha.Of(b[:n]), h.Sum()}
		sha.Of(l[:2]...)
		for _, sum := range sums {
			if sum != plainSum(sample.Text(n)) {
				t.Errorf("the sum of %d bytes hangs on their spare room", n)
			}
		}
		if !bytes.Equal(b[:n], sample.Text(n)) || !bytes.Equal(b[n:], bytes.Repeat([]byte{0xEE}, 200)) {
			t.Errorf("%d bytes were changed", n)
		}
		if !bytes.Equal(l[0], sample.Text(n)) || !bytes.Equal(l[1], sample.Text(n/2)) || string(l[2]) != "spare" {
			t.Errorf("a list of texts was changed")
		}
	}
}
