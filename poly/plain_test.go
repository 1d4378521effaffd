package poly_test

import (
	"fmt"
	"math/big"
	"testing"

	"coffret/sample"
)

func hex(b []byte) string {
	return fmt.Sprintf("%x", b)
}

// bytesOf are the bytes that a test writes in base 16.
func bytesOf(t *testing.T, base16 string) []byte {
	t.Helper()
	var b []byte
	if _, err := fmt.Sscanf(base16, "%x", &b); err != nil {
		t.Fatal(err)
	}
	return b
}

// keyOf has r and s as its halves.
func keyOf(r, s [16]byte) [32]byte {
	return [32]byte(append(r[:], s[:]...))
}

func someKey() [32]byte {
	return [32]byte(sample.Text(32))
}

func onesHalf() [16]byte {
	return [16]byte(sample.Ones(16))
}

// bitHalf has one bit, that of the number i.
func bitHalf(i int) [16]byte {
	var b [16]byte
	b[i/8] = 1 << (i % 8)
	return b
}

// halves are what r and s may be: none, all, and bits of either end.
func halves() [][16]byte {
	return [][16]byte{{}, onesHalf(), [16]byte(sample.Text(16)), [16]byte(sample.Text(32)[16:]), {0: 1}, {0: 2}, {0: 5}, bitHalf(63), bitHalf(64), bitHalf(123), bitHalf(127)}
}

func keys() [][32]byte {
	var all [][32]byte
	for _, r := range halves() {
		for _, s := range halves() {
			all = append(all, keyOf(r, s))
		}
	}
	return all
}

func lengths() []int {
	return []int{0, 1, 2, 15, 16, 17, 31, 32, 33, 47, 48, 49, 100, 255, 256, 300, 640}
}

// power is 2^n, less what is taken off.
func power(n uint, off int64) *big.Int {
	x := new(big.Int).Lsh(big.NewInt(1), n)
	return x.Sub(x, big.NewInt(off))
}

// plainNumber is the whole number in bytes, the lowest first.
func plainNumber(b []byte) *big.Int {
	n := new(big.Int)
	for i := len(b) - 1; i >= 0; i-- {
		n.Add(n.Mul(n, big.NewInt(256)), big.NewInt(int64(b[i])))
	}
	return n
}

// plainBytes are the lowest 16 bytes of a whole number, the lowest first.
func plainBytes(n *big.Int) [16]byte {
	var b [16]byte
	left, rest := new(big.Int).Set(n), new(big.Int)
	for i := range b {
		left.DivMod(left, big.NewInt(256), rest)
		b[i] = byte(rest.Int64())
	}
	return b
}

// plainClamp is the chapter's P5.1, taken word by word, bit by bit.
func plainClamp(b [16]byte) [16]byte {
	var c [16]byte
	for i := range b {
		for bit := range 8 {
			upper := bit >= 4 && (i == 3 || i == 7 || i == 11 || i == 15)
			lowest := bit < 2 && (i == 4 || i == 8 || i == 12)
			if !upper && !lowest {
				c[i] += b[i] & (1 << bit)
			}
		}
	}
	return c
}

// plainLast is what the chapter's P5.2 calls a behind all blocks, taken word by word, by whole numbers.
func plainLast(key [32]byte, b []byte) *big.Int {
	first := plainClamp([16]byte(key[:16]))
	r := plainNumber(first[:])
	a := new(big.Int)
	for at := 0; at < len(b); at += 16 {
		block := append([]byte{}, b[at:min(at+16, len(b))]...)
		a.Add(a, plainNumber(append(block, 1)))
		a.Mod(a.Mul(a, r), power(130, 5))
	}
	return a
}

// plainSum is the chapter's P5.2.
func plainSum(key [32]byte, b []byte) [16]byte {
	a := plainLast(key, b)
	return plainBytes(a.Add(a, plainNumber(key[16:])))
}
