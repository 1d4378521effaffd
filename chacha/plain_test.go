package chacha_test

import (
	"fmt"

	"coffret/api"
	"coffret/chacha"
	"coffret/sample"
)

func hex(b []byte) string {
	return fmt.Sprintf("%x", b)
}

func someKey() api.Key {
	return api.Key(sample.Text(32))
}

func someNonce() chacha.Nonce {
	return chacha.Nonce(sample.Text(12))
}

func onesKey() api.Key {
	return api.Key(sample.Ones(32))
}

func onesNonce() chacha.Nonce {
	return chacha.Nonce(sample.Ones(12))
}

// counted is the key 00 01 02 and so on, which the RFC takes.
func counted() api.Key {
	var k api.Key
	for i := range k {
		k[i] = byte(i)
	}
	return k
}

// bitKey has one bit, that of the number i.
func bitKey(i int) api.Key {
	var k api.Key
	k[i/8] = 1 << (i % 8)
	return k
}

func bitNonce(i int) chacha.Nonce {
	var n chacha.Nonce
	n[i/8] = 1 << (i % 8)
	return n
}

func keys() []api.Key {
	return []api.Key{{}, onesKey(), someKey(), counted(), bitKey(0), bitKey(255)}
}

func nonces() []chacha.Nonce {
	return []chacha.Nonce{{}, onesNonce(), someNonce(), bitNonce(0), bitNonce(95)}
}

// counts are such that two blocks behind each, and more, some of them go over a byte, the highest bit, and the last number.
func counts() []uint32 {
	return []uint32{0, 1, 0xfe, 0xff, 0xffff, 0xffffff, 1<<31 - 1, 1 << 31, 0xff000000, 1<<32 - 2, 1<<32 - 1}
}

func lengths() []int {
	return []int{0, 1, 2, 63, 64, 65, 127, 128, 129, 191, 192, 193, 300, 640}
}

// plainBlock is the chapter's P4.1, taken word by word, by whole numbers modulo 2^32.
func plainBlock(k api.Key, n chacha.Nonce, count uint32) [64]byte {
	const words = 1 << 32
	laid := []byte("expand 32-byte k")
	laid = append(laid, k[:]...)
	laid = append(laid, byte(count), byte(count>>8), byte(count>>16), byte(count>>24))
	laid = append(laid, n[:]...)
	was := make([]uint64, 16)
	for i, x := range laid {
		was[i/4] += uint64(x) << (8 * (i % 4))
	}
	is := append([]uint64{}, was...)
	left := func(x uint64, by int) uint64 { return x<<by%words + x>>(32-by) }
	for range 10 {
		for _, q := range [][4]int{{0, 4, 8, 12}, {1, 5, 9, 13}, {2, 6, 10, 14}, {3, 7, 11, 15}, {0, 5, 10, 15}, {1, 6, 11, 12}, {2, 7, 8, 13}, {3, 4, 9, 14}} {
			for half, by := range []int{16, 12, 8, 7} {
				to, from, turned := q[0], q[1], q[3]
				if half%2 == 1 {
					to, from, turned = q[2], q[3], q[1]
				}
				is[to] = (is[to] + is[from]) % words
				is[turned] = left(is[turned]^is[to], by)
			}
		}
	}
	var block [64]byte
	for i := range block {
		block[i] = byte((is[i/4] + was[i/4]) % words >> (8 * (i % 4)))
	}
	return block
}

// plainStream is the chapter's P4.2, taken word by word: the blocks are laid out whole, one behind the other.
func plainStream(k api.Key, n chacha.Nonce, count uint32, b []byte) []byte {
	var blocks []byte
	for number := uint64(count); len(blocks) < len(b); number++ {
		block := plainBlock(k, n, uint32(number%(1<<32)))
		blocks = append(blocks, block[:]...)
	}
	laid := []byte{}
	for i, x := range b {
		laid = append(laid, x^blocks[i])
	}
	return laid
}
