package kdf_test

import (
	"bytes"
	"math"
	"testing"

	"coffret/api"
	"coffret/kdf"
	"coffret/sample"
	"coffret/sha"
)

const most = 255 * 32

// run is the bytes from one to another, the last one too.
func run(from, to int) []byte {
	var b []byte
	for x := from; x <= to; x++ {
		b = append(b, byte(x))
	}
	return b
}

// P3.2: the examples of RFC 5869.
func TestExtractAndExpandAreAsKnown(t *testing.T) {
	for _, c := range []struct {
		salt, secret, info []byte
		key, out           string
	}{
		{run(0, 0x0c), bytes.Repeat([]byte{0x0b}, 22), run(0xf0, 0xf9),
			"077709362c2e32df0ddc3f0dc47bba6390b6c73bb50f9c3122ec844ad7c2b3e5",
			"3cb25f25faacd57a90434f64d0362f2a2d2d0a90cf1a5a4c5db02d56ecc4c5bf34007208d5b887185865"},
		{run(0x60, 0xaf), run(0, 0x4f), run(0xb0, 0xff),
			"06a6b88c5853361a06104c9ceb35b45cef760014904671014a193f40c15fc244",
			"b11e398dc80327a1c8e7f78c596a49344f012eda2d4efad8a050cc4c19afa97c59045a99cac7827271cb41c65e590e09da3275600c2f09b8367793a9aca3db71cc30c58179ec3e87c14c01d5c1f3434f1d87"},
		{nil, bytes.Repeat([]byte{0x0b}, 22), nil,
			"19ef24a32c717b167f33a91d6f648bdf96596776afdb6377ac434c1c293ccb04",
			"8da4e775a563c18f715f802a063c5a31b8a11f5c5ee1879ec3454e5f3c738d2d9d201395faa4b61a96c8"},
	} {
		k := kdf.Extract(c.salt, c.secret)
		if hex(k[:]) != c.key {
			t.Errorf("Extract(%x, %x) = %x, want %s", c.salt, c.secret, k, c.key)
		}
		if b, ok := kdf.Expand(k, c.info, len(c.out)/2); !ok || hex(b) != c.out {
			t.Errorf("Expand(%x, %x) = %x, %v, want %s", k, c.info, b, ok, c.out)
		}
	}
}

// P3.2: Extract is Mac of the secret, by the salt, and not the other way round.
func TestExtractIsMacBySalt(t *testing.T) {
	for _, n := range []int{0, 1, 31, 32, 33, 63, 64, 65, 200} {
		for _, m := range []int{0, 1, 32, 64, 65, 200} {
			salt, secret := sample.Text(n), bytes.Repeat([]byte{0x5a}, m)
			if got, want := kdf.Extract(salt, secret), api.Key(plainMac(salt, secret)); got != want {
				t.Errorf("a salt of %d bytes and a secret of %d: %x, want %x", n, m, got, want)
			}
		}
	}
	if kdf.Extract(nil, nil) != kdf.Extract([]byte{}, []byte{}) {
		t.Error("nil is not as no bytes")
	}
}

// P3.2: Expand at the edges, with and without an info, held against the chapter's words taken plainly.
func TestExpandIsAsTheChapterSays(t *testing.T) {
	for _, k := range []api.Key{{}, someKey(), api.Key(sample.Ones(32))} {
		for _, info := range [][]byte{nil, {}, []byte("i"), sample.Text(63), sample.Text(200)} {
			for _, n := range []int{0, 1, 2, 31, 32, 33, 63, 64, 65, 100, most - 33, most - 32, most - 31, most - 1, most} {
				b, ok := kdf.Expand(k, info, n)
				if !ok || len(b) != n || !bytes.Equal(b, plainExpand(k, info, n)) {
					t.Errorf("Expand(%x, %x, %d): %d bytes, %v", k, info, n, len(b), ok)
				}
			}
		}
	}
}

// P3.2: as many bytes as there may be, as another program has them.
func TestExpandOfAllIsAsKnown(t *testing.T) {
	for info, want := range map[string]string{
		"some info": "7db19b9be7c4ee622e63e25aed2cca05262a6ef3fe6090a9f4c73fcb5e7eb4cc",
		"":          "284b88c24c8681721552af1fe7b206373b675304aa6b9170e826738af41d33b3",
	} {
		b, ok := kdf.Expand(someKey(), []byte(info), most)
		if sum := sha.Sum(b); !ok || hex(sum[:]) != want {
			t.Errorf("Expand for %q: sum %x, %v, want %s", info, sum, ok, want)
		}
	}
}

// P3.2: fewer bytes are the beginning of more.
func TestExpandOfFewerBeginsMore(t *testing.T) {
	all, _ := kdf.Expand(someKey(), []byte("info"), most)
	for n := range 300 {
		if b, ok := kdf.Expand(someKey(), []byte("info"), n); !ok || !bytes.Equal(b, all[:n]) {
			t.Fatalf("%d bytes: %x, %v", n, b, ok)
		}
	}
}

// P3.2: none and false, where n is below 0, or above 255 times 32.
func TestExpandRefuses(t *testing.T) {
	for _, n := range []int{-1, -32, math.MinInt, math.MinInt + 1, most + 1, most + 32, 256 * 32, 1 << 31, 1 << 32, 1<<32 + 32, math.MaxInt} {
		for _, info := range [][]byte{nil, []byte("info")} {
			if b, ok := kdf.Expand(someKey(), info, n); ok || len(b) != 0 {
				t.Errorf("Expand(.., %d) = %d bytes, %v", n, len(b), ok)
			}
		}
	}
}

// P3.2: each byte of the key and of the info counts.
func TestExpandHangsOnEveryByte(t *testing.T) {
	k, info := someKey(), sample.Text(70)
	met := map[string]int{}
	meet := func(i int) {
		b, _ := kdf.Expand(k, info, 64)
		met[string(b)] = i
	}
	meet(-1)
	for i := range k {
		k[i] ^= 0x80
		meet(i)
		k[i] ^= 0x80
	}
	for i := range info {
		info[i] ^= 0x80
		meet(i)
		info[i] ^= 0x80
	}
	if want := 1 + len(k) + len(info); len(met) != want {
		t.Errorf("%d come of it, want %d", len(met), want)
	}
}

// What is handed in is as it was, its spare room too.
func TestExtractAndExpandTouchNothing(t *testing.T) {
	for _, n := range []int{0, 1, 33, 64, 65, 150} {
		salt, secret, info := sample.Spared(sample.Text(n)), sample.Spared(sample.Text(n+1)), sample.Spared(sample.Text(n+2))
		k := kdf.Extract(salt, secret)
		b, _ := kdf.Expand(k, info, 100)
		if k != api.Key(plainMac(sample.Text(n), sample.Text(n+1))) || !bytes.Equal(b, plainExpand(k, sample.Text(n+2), 100)) {
			t.Errorf("at %d bytes it is another", n)
		}
		checkSpared(t, "salt", salt, sample.Text(n))
		checkSpared(t, "secret", secret, sample.Text(n+1))
		checkSpared(t, "info", info, sample.Text(n+2))
	}
}

// What Expand hands out is new memory, its spare room too.
func TestExpandHandsOutNewMemory(t *testing.T) {
	for _, n := range []int{0, 1, 32, 33, 64} {
		info := sample.Spared(sample.Text(n))
		first, _ := kdf.Expand(someKey(), info, n)
		second, _ := kdf.Expand(someKey(), info, n)
		for i := range first[:cap(first)] {
			first[:cap(first)][i] = '!'
		}
		checkSpared(t, "info", info, sample.Text(n))
		if third, _ := kdf.Expand(someKey(), info, n); !bytes.Equal(second, third) || !bytes.Equal(second, plainExpand(someKey(), info, n)) {
			t.Errorf("%d bytes that were handed out share memory", n)
		}
	}
}
