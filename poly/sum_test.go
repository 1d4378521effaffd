package poly_test

import (
	"bytes"
	"math/big"
	"testing"

	"coffret/poly"
	"coffret/sample"
)

const (
	submission = "Any submission to the IETF intended by the Contributor for publication as all or part of an IETF Internet-Draft or RFC and any statement made within the context of an IETF activity is considered an \"IETF Contribution\". Such statements include oral statements in IETF sessions, as well as written and electronic communications made at any time or place, which are addressed to"
	brillig    = "'Twas brillig, and the slithy toves\nDid gyre and gimble in the wabe:\nAll mimsy were the borogoves,\nAnd the mome raths outgrabe."
)

// P5.2: the examples of RFC 8439, 2.5.2 and A.3.
func TestSumOfPublishedExamples(t *testing.T) {
	for _, c := range []struct {
		r, s, text, tag string
	}{
		{"85d6be7857556d337f4452fe42d506a8", "0103808afb0db2fd4abff6af4149f51b", hex([]byte("Cryptographic Forum Research Group")), "a8061dc1305136c6c22b8baf0c0127a9"},
		{"00000000000000000000000000000000", "00000000000000000000000000000000", hex(make([]byte, 64)), "00000000000000000000000000000000"},
		{"00000000000000000000000000000000", "36e5f6b5c5e06070f0efca96227a863e", hex([]byte(submission)), "36e5f6b5c5e06070f0efca96227a863e"},
		{"36e5f6b5c5e06070f0efca96227a863e", "00000000000000000000000000000000", hex([]byte(submission)), "f3477e7cd95417af89a6b8794c310cf0"},
		{"1c9240a5eb55d38af333888604f6b5f0", "473917c1402b80099dca5cbc207075c0", hex([]byte(brillig)), "4541669a7eaaee61e708dc7cbcc5eb62"},
		{"02000000000000000000000000000000", "00000000000000000000000000000000", "ffffffffffffffffffffffffffffffff", "03000000000000000000000000000000"},
		{"02000000000000000000000000000000", "ffffffffffffffffffffffffffffffff", "02000000000000000000000000000000", "03000000000000000000000000000000"},
		{"01000000000000000000000000000000", "00000000000000000000000000000000", "fffffffffffffffffffffffffffffffff0ffffffffffffffffffffffffffffff11000000000000000000000000000000", "05000000000000000000000000000000"},
		{"01000000000000000000000000000000", "00000000000000000000000000000000", "fffffffffffffffffffffffffffffffffbfefefefefefefefefefefefefefefe01010101010101010101010101010101", "00000000000000000000000000000000"},
		{"02000000000000000000000000000000", "00000000000000000000000000000000", "fdffffffffffffffffffffffffffffff", "faffffffffffffffffffffffffffffff"},
		{"01000000000000000400000000000000", "00000000000000000000000000000000", "e33594d7505e43b900000000000000003394d7505e4379cd01000000000000000000000000000000000000000000000001000000000000000000000000000000", "14000000000000005500000000000000"},
		{"01000000000000000400000000000000", "00000000000000000000000000000000", "e33594d7505e43b900000000000000003394d7505e4379cd010000000000000000000000000000000000000000000000", "13000000000000000000000000000000"},
	} {
		key := keyOf([16]byte(bytesOf(t, c.r)), [16]byte(bytesOf(t, c.s)))
		if got := poly.Sum(key, bytesOf(t, c.text)); hex(got[:]) != c.tag {
			t.Errorf("by %s, %s of %s: %x, want %s", c.r, c.s, c.text, got, c.tag)
		}
	}
}

// P5.2: lengths about whole blocks, by some key, and all ones by a key of ones; from another program.
func TestSumOfLengths(t *testing.T) {
	for _, c := range []struct {
		size       int
		some, ones string
	}{
		{0, "737a81888f969da4abb2b9c0c7ced5dc", "ffffffffffffffffffffffffffffffff"},
		{1, "8b9bbeb1eb244bde57b1d70ac43d6467", "23feffef23f8ffef23f8ffef23f8ffef"},
		{2, "94c61b554529be9aaaad63e00f320956", "fb27feef0320f8ef0320f8ef0320f8ef"},
		{15, "7fc5b4d6daf94cda60d0fa66e3163039", "fbff27e6030028e6030028e6030028ee"},
		{16, "00f900062700b4a37fa97ccad4c22890", "fbffff17faffff17faffff17faffff17"},
		{17, "2d5db7aeeeb709d6c7e3f439eed73bd0", "7cfe7ff768f81f2763f8bf565df85f86"},
		{31, "d23a599f599b7d62fea187222418ec88", "5400a8ed4800481d4300e84c3d008884"},
		{32, "cbbf0e237d522dce538b3176ab33ac36", "5400801f3f00204f3900c07e330060ae"},
		{33, "3f68d1c18818770031eb9ab9ad1aedba", "86fa6a437bf4ec24a274504dc37495bc"},
		{47, "22d526daefea722e5b992d99209aa046", "5efc92395bfc141b827c7843a37cbdba"},
		{48, "0e5f30a847e332372100a4dc546fa93b", "5efc6a6b51fcec4c787c5075997c95e4"},
		{49, "9988e5dc732b26dc44484a6ca8fdcab8", "b80de303eb57a8afe6a0efbcf1db7e89"},
		{100, "dbd1bc45cfa4290292ffb16ee9c526a0", "b99c030d7ce939bb6607393e68656f22"},
		{255, "c94039728f242c6a1d32ecf251773c73", "c80cb43844f387946e5aa6085bdf67da"},
		{256, "526f3157a7e98296cb8da1669669ec82", "c30c8c6a3af35fc6645a7e3a51df3f04"},
		{300, "6259f71894921c3a251804b3d42bf922", "6c499875b9b673225179adcb3a2724d2"},
		{640, "12bc18d90545c77486ba05d6419bb681", "3bc43b75afaf8c546ae2659d74fba480"},
		{1000, "76e682f07c443b52b275bbd542052dfd", "de9406b10e7023bcd692ff687f4cbc7f"},
	} {
		if got := poly.Sum(someKey(), sample.Text(c.size)); hex(got[:]) != c.some {
			t.Errorf("%d bytes by some key: %x, want %s", c.size, got, c.some)
		}
		if got := poly.Sum([32]byte(sample.Ones(32)), sample.Ones(c.size)); hex(got[:]) != c.ones {
			t.Errorf("%d ones by ones: %x, want %s", c.size, got, c.ones)
		}
	}
}

// P5.2, example 1: of a text without bytes the tag is s.
func TestSumOfNoBytes(t *testing.T) {
	for _, key := range keys() {
		for _, b := range [][]byte{nil, {}, sample.Text(70)[:0], sample.Text(70)[70:]} {
			if got := poly.Sum(key, b); got != [16]byte(key[16:]) {
				t.Errorf("by %x of no bytes: %x", key, got)
			}
		}
	}
}

// P5.2: many keys and lengths, held against the chapter's words taken plainly.
func TestSumIsAsTheChapterSays(t *testing.T) {
	for _, key := range keys() {
		for _, size := range lengths() {
			for _, b := range [][]byte{sample.Text(size), make([]byte, size), sample.Ones(size)} {
				if got, want := poly.Sum(key, b), plainSum(key, b); got != want {
					t.Errorf("by %x of %x: %x, want %x", key, b, got, want)
				}
			}
		}
	}
}

// P5.2: the limbs hold what comes together in texts of many blocks.
func TestSumOfALongText(t *testing.T) {
	for _, key := range [][32]byte{someKey(), [32]byte(sample.Ones(32)), keyOf(onesHalf(), [16]byte{})} {
		for _, b := range [][]byte{sample.Text(70001), sample.Ones(70000), make([]byte, 70007)} {
			if got, want := poly.Sum(key, b), plainSum(key, b); got != want {
				t.Errorf("by %x of %d bytes: %x, want %x", key, len(b), got, want)
			}
		}
	}
}

// twoBlocks are a text by which, with r being 1, a comes to a number from 2^129 on, ahead of what modulo does.
func twoBlocks(sum *big.Int) []byte {
	left := new(big.Int).Sub(sum, power(129, 0))
	first := power(128, 1)
	if left.Cmp(first) < 0 {
		first.Set(left)
	}
	a, b := plainBytes(first), plainBytes(left.Sub(left, first))
	return append(a[:], b[:]...)
}

// checkLast tells whether, with r being 1, the tags of a text are those of a, which is told ahead of what modulo does.
func checkLast(t *testing.T, b []byte, a *big.Int) {
	t.Helper()
	for _, s := range halves() {
		want := new(big.Int).Mod(a, power(130, 5))
		want.Add(want, plainNumber(s[:]))
		if got := poly.Sum(keyOf([16]byte{0: 1}, s), b); got != plainBytes(want) {
			t.Errorf("a is %v, s %x: %x, want %x", a, s, got, plainBytes(want))
		}
	}
}

// P5.2: where a comes to 2^130 - 5, and to each number just about it, up to the greatest of two blocks.
func TestSumAboutTheModulus(t *testing.T) {
	for off := int64(2); off < 300; off++ {
		checkLast(t, twoBlocks(power(130, off)), power(130, off))
	}
	if got := poly.Sum(keyOf([16]byte{0: 1}, [16]byte{0: 9}), twoBlocks(power(130, 5))); got != [16]byte{0: 9} {
		t.Errorf("a is 2^130 - 5, s 9: %x", got)
	}
	if got := poly.Sum(keyOf([16]byte{0: 1}, [16]byte{}), twoBlocks(power(130, 6))); hex(got[:]) != "faffffffffffffffffffffffffffffff" {
		t.Errorf("a is 2^130 - 6, s 0: %x", got)
	}
}

// P5.2: where a goes over 2^130 with the third block, and comes to 2^130 and to each number just about it.
func TestSumOverTheHighestLimb(t *testing.T) {
	for off := int64(-40); off < 40; off++ {
		left := new(big.Int).Sub(power(130, off), power(128, 0)) // what two blocks are to come to, the third being 2^128
		b := append(twoBlocks(left), make([]byte, 16)...)
		checkLast(t, b, power(130, off))
	}
}

// P5.2: where a is left at one of the greatest numbers, it goes on from there into the next block.
func TestSumGoesOnFromTheModulus(t *testing.T) {
	for off := int64(2); off < 12; off++ {
		for _, size := range []int{1, 15, 16, 17, 32, 33} {
			for _, r := range [][16]byte{{0: 1}, {0: 2}, {0: 3}} {
				key := keyOf(r, onesHalf())
				b := append(twoBlocks(power(130, off)), sample.Ones(size)...)
				if got, want := poly.Sum(key, b), plainSum(key, b); got != want {
					t.Errorf("2^130 - %d and %d bytes by %x: %x, want %x", off, size, r, got, want)
				}
			}
		}
	}
}

// P5.2: where a + s comes to 2^128 and just about it, what goes over it is left out.
func TestSumOverTheTag(t *testing.T) {
	for _, b := range [][]byte{sample.Text(5), sample.Text(16), sample.Text(40), sample.Ones(64)} {
		a := plainLast(keyOf([16]byte(sample.Text(16)), [16]byte{}), b)
		for off := int64(-300); off < 300; off++ {
			// s is such that the lowest 16 bytes of a, and s, are 2^128 less off.
			low := new(big.Int).Mod(a, power(128, 0))
			s := new(big.Int).Mod(new(big.Int).Sub(power(128, off), low), power(128, 0))
			key := keyOf([16]byte(sample.Text(16)), plainBytes(s))
			want := plainBytes(new(big.Int).Mod(big.NewInt(-off), power(128, 0)))
			if got := poly.Sum(key, b); got != want {
				t.Errorf("2^128 - %d of %x: %x, want %x", off, b, got, want)
			}
		}
	}
}

// P5.3: with r being 0, all bits of it or just those that count, the tag is s.
func TestSumWhereRIsNothing(t *testing.T) {
	off := [16]byte{3: 0xf0, 4: 3, 7: 0xf0, 8: 3, 11: 0xf0, 12: 3, 15: 0xf0}
	for _, r := range [][16]byte{{}, off} {
		for _, s := range halves() {
			for _, size := range lengths() {
				for _, b := range [][]byte{sample.Text(size), sample.Ones(size)} {
					if got := poly.Sum(keyOf(r, s), b); got != s {
						t.Errorf("r %x of %x: %x, want %x", r, b, got, s)
					}
				}
			}
		}
	}
}

// P5.3: of one block the tag is its number, with the byte 1 behind it, times r, modulo 2^130 - 5, and s.
func TestSumOfOneBlock(t *testing.T) {
	for _, key := range keys() {
		first := plainClamp([16]byte(key[:16]))
		for size := 1; size <= 16; size++ {
			for _, b := range [][]byte{sample.Text(size), make([]byte, size), sample.Ones(size)} {
				n := new(big.Int).Add(plainNumber(b), power(uint(8*size), 0))
				n.Mod(n.Mul(n, plainNumber(first[:])), power(130, 5))
				want := plainBytes(n.Add(n, plainNumber(key[16:])))
				if got := poly.Sum(key, b); got != want {
					t.Errorf("by %x of %x: %x, want %x", key, b, got, want)
				}
			}
		}
	}
}

// P5.3: with r being 1 and s 0, of one block that is not whole the tag shows the byte 1 behind it.
func TestSumShowsTheByteBehind(t *testing.T) {
	for size := 1; size < 16; size++ {
		var want [16]byte
		want[copy(want[:], sample.Text(size))] = 1
		if got := poly.Sum(keyOf([16]byte{0: 1}, [16]byte{}), sample.Text(size)); got != want {
			t.Errorf("%d bytes: %x, want %x", size, got, want)
		}
	}
}

// P5.2: zeros at the end count, for the byte 1 stands behind them.
func TestSumTellsZerosAtTheEnd(t *testing.T) {
	seen := map[[16]byte]int{}
	for size := range 70 {
		tag := poly.Sum(someKey(), make([]byte, size))
		if was, there := seen[tag]; there {
			t.Errorf("%d zeros and %d zeros have one tag", was, size)
		}
		seen[tag] = size
	}
}

// P5.1, P5.2: the tag hangs on each bit of the key that Clamp leaves, and on no other.
func TestSumHangsOnEachBitOfTheKey(t *testing.T) {
	was := poly.Sum(someKey(), sample.Text(40))
	for i := range 256 {
		key := someKey()
		key[i/8] ^= 1 << (i % 8)
		counts := i >= 128 || poly.Clamp(bitHalf(i)) != [16]byte{}
		if got := poly.Sum(key, sample.Text(40)); (got != was) != counts {
			t.Errorf("with the key's bit %d turned: %x, was %x", i, got, was)
		}
	}
}

// P5.2: the tag hangs on each bit of the text.
func TestSumHangsOnEachBitOfTheText(t *testing.T) {
	was := poly.Sum(someKey(), sample.Text(40))
	for i := range 8 * 40 {
		b := sample.Text(40)
		b[i/8] ^= 1 << (i % 8)
		got := poly.Sum(someKey(), b)
		if got == was || got != plainSum(someKey(), b) {
			t.Errorf("with the text's bit %d turned: %x, was %x", i, got, was)
		}
	}
}

// Rules 4 and 8: what is handed in is as it was, its spare room too, and what lies there is not read.
func TestSumTouchesNothing(t *testing.T) {
	for _, size := range lengths() {
		b := sample.Spared(sample.Text(size))
		key := someKey()
		got := poly.Sum(key, b)
		if !sample.Untouched(b, sample.Text(size)) {
			t.Errorf("%d bytes that were handed in were written: %x", size, b)
		}
		if key != someKey() {
			t.Errorf("the key is now %x", key)
		}
		if want := plainSum(key, sample.Text(size)); got != want {
			t.Errorf("%d bytes with spare room: %x, want %x", size, got, want)
		}
	}
}

// Rule 4: a part of a text is not written beyond its end, where the other part goes on.
func TestSumOfAPartLeavesTheRest(t *testing.T) {
	whole := sample.Text(100)
	for size := range 101 {
		if got, want := poly.Sum(someKey(), whole[:size]), plainSum(someKey(), sample.Text(size)); got != want {
			t.Errorf("the first %d bytes: %x, want %x", size, got, want)
		}
		if !bytes.Equal(whole, sample.Text(100)) {
			t.Fatalf("behind the sum of %d bytes the text is %x", size, whole)
		}
	}
}

// Rule 5: a sum is the same, whatever was summed ahead of it.
func TestSumKeepsNothing(t *testing.T) {
	want := plainSum(someKey(), sample.Text(50))
	for _, key := range keys() {
		poly.Sum(key, sample.Ones(33))
		if got := poly.Sum(someKey(), sample.Text(50)); got != want {
			t.Errorf("behind a sum by %x: %x, want %x", key, got, want)
		}
	}
}
