package aead_test

import (
	"testing"

	"coffret/aead"
	"coffret/api"
	"coffret/chacha"
	"coffret/sample"
)

// tagged is the tag of a text that is not sealed yet.
func tagged(k api.Key, n chacha.Nonce, beside, text []byte) [16]byte {
	return aead.Tag(k, n, beside, chacha.Stream(k, n, 1, text))
}

// P6.1: the examples of RFC 8439, 2.8.2 and A.5.
func TestTagOfPublishedExamples(t *testing.T) {
	for _, c := range published() {
		if got := tagged(c.k, c.n, []byte(c.beside), []byte(c.text)); hex(got[:]) != c.tag {
			t.Errorf("of %q: %x, want %s", c.text, got, c.tag)
		}
	}
}

// P6.1: lengths about multiples of 16, each with each; from another program.
func TestTagOfLengths(t *testing.T) {
	sizes := []int{0, 1, 15, 16, 17, 31, 32, 33, 300}
	for i, row := range [][9]string{
		{"46462d8ba40593f48dee8f59c9194a3f", "c09a9e46cc7060a554cce1d62f8dc352", "6b737f0dec965977c0928f2ff8d5a119", "6d074a6ff1fc129aa2414362f765c0e3", "0e54038cd00ba700fb4d0a285850c144", "4cc4117400ead61537dc16ba0616f3e6", "41b86a27404625c91e40be7552fcd58d", "160ca35bd75cf7318d2073542901dc32", "ba5fbb196e698150b984c919f231f5a0"},
		{"19559482cd46dc03cc2922c5b9a64bd5", "4bfe48cc6b91b685f790bae58549513c", "fbd629938bb7af576357683e4e922f03", "fd6af4f4901d697a45061c714d224ecd", "73cf064d49011e8fb192938319e62794", "b13f153579df4da4ed20a015c8ab5936", "ab336ee8b83b9c57d58447d113923cdd", "01f10014eacc77eabd07ebe3b5dcb7a9", "03887e7544e0ac728191759b6ff2e977"},
		{"266960ccb87437f5ab76b8390afc8e7d", "e29ff7036846938d487fcf41d713aa7d", "9278d8ca876c8c5fb4457d9a9f5c8844", "940ca32c8dd2458296f430cd9eeca60e", "2bcff787401e32faffa307bfb7a123a4", "6e3f067070fc610f3c32145166675546", "63335f23b058b0c22396bb0cb24d38ed", "8df52872dadb1ba164eb30349698b5c5", "5874fa2e8fd7cc3f9b152bedeee171df"},
		{"59350ddfc98c18a96fd9015f886e5ce1", "8a7b69ae8d24bfa536394cb8fa9f1160", "35544a75ad4ab877a2fff910c3e8ef26", "37e814d7b2b0719a84aead43c2780ef1", "9a7c6cdb652d080b7853f9a30216f27e", "d8ec7ac3950b3820b4e10536b1db2321", "cde0d376d56786d39b45adf1fcc106c8", "a89e30c2ccccbf256fa0fd7cf38a8787", "53f9ed4c492e6ff76d9d50df1dfad5aa"},
		{"442acad1e3f289d05b206a7d25a24a64", "b46afc7ab724f659b017e89d38339237", "6443dd41d74aef2b1cde95f6007c70fe", "61d7a7a3dcb0a84efe8c4929000c8fc8", "fadd64b642eaf8a28a4af163ca313680", "3d4e739e72c828b8c6d8fdf578f76722", "3242cc51b224776bae3ca5b1c4dd4ac9", "85f5372f57cc9a57a32577fd4ec98080", "0ee387ccd3ed5934d4b219d54e95bf55"},
		{"ced500876baf2c3f99e3f3f9313714e2", "e765517fd15706e9302350812048e8aa", "973e3246f17dffba9ce9fdd9e890c671", "94d2fca7f6e3b8dd7e98b10ce820e53b", "4feada0136f086a58a3c18c5d3038d54", "8d5ae9e965ceb6bac6ca245782c9bef6", "824e429da52a056eae2ecc12ceafa19d", "47f37f9976983b880d8fa7acb88d4195", "6c14a47f7959656b518839eae94f79c8"},
		{"b2e7ce03332a4d0c49db49e8d2c683a7", "5f5eba4d058cee8b402b18027128c168", "0f379b1425b2e75dacf1c55a39719f2f", "0ccb65762a18a1808ea0798d3801bef9", "541c539a721645ab08b46f0a91b3d828", "928c6182a2f474c044427c9c3f790acb", "8c80ba35e250c3732ca623588b5fed71", "38b4d776ec05d68c601be3c6dd0e2c2d", "cf8b5739d2790f79ca33cb9fb0eebcbf"},
		{"7a018658b0520883139c139e3c13abee", "4b4e2d997a7f11c47cf99c40cff488a2", "fb260e609aa50a96e8bf4a99973d6769", "f8bad8c19f0bc4b8ca6efecb96cd8533", "846fdc6d669c212a73fda9659b773dbd", "c7dfea55967a513faf8bb6f7493d6f5f", "bcd34309d6d69ff296ef5db395235206", "eab166db24ba0b00807f8caf9e655c98", "d418d27f59b6ba529bb30d3003998529"},
		{"0d2c7d7ed18fd4e0fc18aa3ca9037a2b", "bce4260f1067afedf6249157510211e6", "6cbd07d62f8da8bf62eb3eb0194befac", "6e51d23735f361e2449af2e218db0d77", "c9f7385862435282f946e546059c4c15", "0c6847409221829735d5f1d8b3617eb7", "015ca0f3d17dd04a1d399994ff47615e", "54144fc9944ed44dfd24ad98b53cb835", "6102a434cb83aa8325390a65b17e676f"},
	} {
		for j, want := range row {
			if got := tagged(someKey(), someNonce(), sample.Text(sizes[i]), sample.Text(sizes[j])); hex(got[:]) != want {
				t.Errorf("%d bytes beside %d: %x, want %s", sizes[j], sizes[i], got, want)
			}
		}
	}
}

// P6.1: texts beside texts, each with each, nil too, held against the chapter's words taken plainly.
func TestTagIsAsTheChapterSays(t *testing.T) {
	for _, beside := range texts() {
		for _, sealed := range texts() {
			if got, want := aead.Tag(someKey(), someNonce(), beside, sealed), plainTag(someKey(), someNonce(), beside, sealed); got != want {
				t.Errorf("%x beside %x: %x, want %x", sealed, beside, got, want)
			}
		}
	}
}

// P6.1: other keys and nonces.
func TestTagByKeysAndNonces(t *testing.T) {
	for _, k := range keys() {
		for _, n := range nonces() {
			for _, size := range lengths() {
				beside, sealed := sample.Ones(size/2), sample.Text(size)
				if got, want := aead.Tag(k, n, beside, sealed), plainTag(k, n, beside, sealed); got != want {
					t.Errorf("by %x, %x, %d bytes: %x, want %x", k, n, size, got, want)
				}
			}
		}
	}
}

// P6.1: a length may take three bytes, on either side.
func TestTagOfLongTexts(t *testing.T) {
	for _, size := range []int{65535, 65536, 70001} {
		for _, other := range []int{0, 5, 65536} {
			x, y := sample.Text(size), sample.Ones(other)
			if aead.Tag(someKey(), someNonce(), x, y) != plainTag(someKey(), someNonce(), x, y) {
				t.Errorf("%d bytes beside %d: another", other, size)
			}
			if aead.Tag(someKey(), someNonce(), y, x) != plainTag(someKey(), someNonce(), y, x) {
				t.Errorf("%d bytes beside %d: another", size, other)
			}
		}
	}
}

// P6.1: a text of no bytes is one, whether nil or not.
func TestTagOfNothing(t *testing.T) {
	for _, k := range keys() {
		want := plainTag(k, someNonce(), nil, nil)
		for _, beside := range [][]byte{nil, {}, sample.Text(9)[:0], sample.Text(9)[9:]} {
			for _, sealed := range [][]byte{nil, {}, sample.Text(9)[:0], sample.Text(9)[9:]} {
				if got := aead.Tag(k, someNonce(), beside, sealed); got != want {
					t.Errorf("by %x of nothing: %x, want %x", k, got, want)
				}
			}
		}
	}
}

// P6.1: the lengths tell where beside ends and the sealed text begins, and which zeros are of a text.
func TestTagTellsTextsApart(t *testing.T) {
	seen := map[[16]byte]int{}
	for i := range 50 {
		for j := range 50 {
			tag := aead.Tag(someKey(), someNonce(), make([]byte, i), make([]byte, j))
			if was, there := seen[tag]; there {
				t.Errorf("%d zeros beside %d, and %d beside %d, have one tag", j, i, was%50, was/50)
			}
			seen[tag] = 50*i + j
		}
	}
	for _, size := range lengths() {
		whole := sample.Text(size)
		cuts := map[[16]byte]int{}
		for at := range size + 1 {
			cuts[aead.Tag(someKey(), someNonce(), whole[:at], whole[at:])]++
		}
		if len(cuts) != size+1 {
			t.Errorf("%d bytes, cut at %d places, have %d tags", size, size+1, len(cuts))
		}
	}
}

// P6.1: the tag hangs on each bit of beside and of the sealed text.
func TestTagHangsOnEachBit(t *testing.T) {
	for _, size := range []int{1, 16, 33} {
		was := aead.Tag(someKey(), someNonce(), sample.Text(size), sample.Ones(size))
		for i := range 8 * size {
			if aead.Tag(someKey(), someNonce(), sample.Turned(sample.Text(size), i), sample.Ones(size)) == was {
				t.Errorf("with the bit %d of %d bytes beside turned the tag is the same", i, size)
			}
			if aead.Tag(someKey(), someNonce(), sample.Text(size), sample.Turned(sample.Ones(size), i)) == was {
				t.Errorf("with the bit %d of %d sealed bytes turned the tag is the same", i, size)
			}
		}
	}
}

// Rules 4 and 8: what is handed in is as it was, its spare room too, and what lies there is not read.
func TestTagTouchesNothing(t *testing.T) {
	for _, i := range lengths() {
		for _, j := range lengths() {
			beside, sealed := sample.Spared(sample.Text(i)), sample.Spared(sample.Ones(j))
			got := aead.Tag(someKey(), someNonce(), beside, sealed)
			if !sample.Untouched(beside, sample.Text(i)) || !sample.Untouched(sealed, sample.Ones(j)) {
				t.Errorf("%d bytes beside %d were written: %x, %x", j, i, sealed, beside)
			}
			if want := plainTag(someKey(), someNonce(), sample.Text(i), sample.Ones(j)); got != want {
				t.Errorf("%d bytes beside %d, with spare room: %x, want %x", j, i, got, want)
			}
		}
	}
}

// Rule 5: a tag is the same, whatever was asked ahead of it.
func TestTagKeepsNothing(t *testing.T) {
	want := plainTag(someKey(), someNonce(), sample.Text(20), sample.Text(40))
	for _, k := range keys() {
		aead.Tag(k, someNonce(), sample.Ones(33), sample.Ones(17))
		aead.Open(k, someNonce(), nil, sample.Ones(17))
		if got := aead.Tag(someKey(), someNonce(), sample.Text(20), sample.Text(40)); got != want {
			t.Errorf("behind a tag by %x: %x, want %x", k, got, want)
		}
	}
}
