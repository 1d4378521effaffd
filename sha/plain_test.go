package sha_test

import "math/big"

// plainSum is the chapter's P2.1, taken word by word: the whole text is laid out first, and the constants come of the primes.
func plainSum(b []byte) [32]byte {
	whole := append([]byte{}, b...)
	whole = append(whole, 0x80)
	for len(whole)%64 != 56 {
		whole = append(whole, 0)
	}
	for i := 7; i >= 0; i-- {
		whole = append(whole, byte(uint64(len(b))*8>>(8*i)))
	}
	h := fractions(8, 2)
	for ; len(whole) > 0; whole = whole[64:] {
		plainBlock(h, whole[:64])
	}
	var sum [32]byte
	for i := range sum {
		sum[i] = byte(h[i/4] >> (24 - 8*(i%4)))
	}
	return sum
}

func plainBlock(h []uint32, block []byte) {
	right := func(x uint32, n int) uint32 { return x>>n | x<<(32-n) }
	k := cubes
	w := make([]uint32, 64)
	for t := range w {
		if t < 16 {
			for i := range 4 {
				w[t] = w[t]<<8 | uint32(block[4*t+i])
			}
			continue
		}
		x, y := w[t-15], w[t-2]
		s0 := right(x, 7) ^ right(x, 18) ^ x>>3
		s1 := right(y, 17) ^ right(y, 19) ^ y>>10
		w[t] = s1 + w[t-7] + s0 + w[t-16]
	}
	v := append([]uint32{}, h...)
	for t := range w {
		s1 := right(v[4], 6) ^ right(v[4], 11) ^ right(v[4], 25)
		s0 := right(v[0], 2) ^ right(v[0], 13) ^ right(v[0], 22)
		var ch, maj uint32
		for bit := range 32 {
			at := func(i int) uint32 { return v[i] >> bit & 1 }
			if at(4) == 1 {
				ch |= at(5) << bit
			} else {
				ch |= at(6) << bit
			}
			if at(0)+at(1)+at(2) >= 2 {
				maj |= 1 << bit
			}
		}
		sum := v[7] + s1 + ch + k[t] + w[t]
		v = []uint32{sum + s0 + maj, v[0], v[1], v[2], v[3] + sum, v[4], v[5], v[6]}
	}
	for i := range h {
		h[i] += v[i]
	}
}

var cubes = fractions(64, 3)

// fractions are the first 32 bits behind the point of the roots of the first primes.
func fractions(count, degree int) []uint32 {
	var out []uint32
	for n := int64(2); len(out) < count; n++ {
		if big.NewInt(n).ProbablyPrime(0) {
			out = append(out, uint32(root(new(big.Int).Lsh(big.NewInt(n), uint(32*degree)), degree).Uint64()))
		}
	}
	return out
}

// root is the greatest whole number whose power is not above x.
func root(x *big.Int, degree int) *big.Int {
	r := new(big.Int)
	for bit := x.BitLen(); bit >= 0; bit-- {
		r.SetBit(r, bit, 1)
		if new(big.Int).Exp(r, big.NewInt(int64(degree)), nil).Cmp(x) > 0 {
			r.SetBit(r, bit, 0)
		}
	}
	return r
}
