package draws_test

import (
	"bytes"
	"fmt"
	"math"
	"testing"

	"coffret/api"
	"coffret/draws"
	"coffret/sample"
)

// The chapter's example 1.
func TestExample(t *testing.T) {
	s := draws.New([]byte("ab"))
	checkTake(t, "the first", s, 1, []byte("a"))
	checkTake(t, "the second", s, 1, []byte("b"))
	checkUsed(t, "both", s, 2)
}

// P7.1: bytes that another program worked out.
func TestTakeOfKnownBytes(t *testing.T) {
	for _, c := range []struct{ text, want string }{
		{"", "5c5d42dcf39f71c0226ca720d8d518db615b5773f038e5e491963f6f47621bbd48f2b0172585b57513296eb5a7d22391db7e10a66de6f6d3b80f155754886024ef76316e21c0"},
		{"ab", "6162f02740ea3548b5bad0b05126fbf1a12542e019016e12e5ebeaa896c831b5d139890736017e476471fb9dfffbb5a0f35ce66d92ceef9389c1f347cf1424c9b7e2a721e591"},
	} {
		if got := fmt.Sprintf("%x", draws.New([]byte(c.text)).Take(70)); got != c.want {
			t.Errorf("of %q: %s, want %s", c.text, got, c.want)
		}
	}
}

// P7.1: one Take, of texts of all kinds, about their end and about the ends of sums behind it.
func TestTakeAboutTheEndsOfTextsAndSums(t *testing.T) {
	for _, l := range lists() {
		size := sizeOf(l)
		for _, n := range []int{1, 2, size - 1, size, size + 1, size + 31, size + 32, size + 33, size + 64, size + 65, size + 500} {
			s := draws.New(l...)
			checkUsed(t, "New", s, 0)
			want := plainBytes(l, max(n, 0)+70)
			checkTake(t, fmt.Sprintf("%x", l), s, n, want[:max(n, 0)])
			checkTake(t, fmt.Sprintf("%x, behind %d", l, n), s, 70, want[max(n, 0):])
		}
	}
}

// P7.1: each of the sums behind the texts, one by one.
func TestTakeOfEachSum(t *testing.T) {
	for _, l := range lists() {
		size := sizeOf(l)
		want := plainBytes(l, size+32*300)
		s := draws.New(l...)
		s.Take(size)
		for i := range 300 {
			checkTake(t, fmt.Sprintf("%x, the sum %d", l, i), s, 32, want[size+32*i:size+32*(i+1)])
		}
	}
}

// P7.1: sums whose number takes more than one byte, and more than two; worked out by another program.
func TestTakeOfSumsFarBehind(t *testing.T) {
	s, at := draws.New([]byte("ab")), 0
	for _, c := range []struct {
		from int
		want string
	}{
		{2 + 32*255, "be0505e6a33fec0656ed192d7e71a8fa215edfb39e3070d87c7fa6d010a6d04d8978ff2293808eb88d5f5493868119791707f5843fbf7d4f861f76c90d5d372a"},
		{2 + 32*65535, "aab0a9b7549c778f35dee98a43a6a04b8fb732b5e583d5c9b213b9dd77891831cace03e5f511b78dd36c86849b032ec1b5db343168cade5eeea6f37d5166548d"},
	} {
		for at < c.from {
			n := len(s.Take(c.from - at))
			if n == 0 {
				t.Fatalf("behind %d bytes nothing more is told", at)
			}
			at += n
		}
		if got := fmt.Sprintf("%x", s.Take(64)); got != c.want {
			t.Errorf("from %d on: %s, want %s", c.from, got, c.want)
		}
		at += 64
		checkUsed(t, "far behind", s, at)
	}
}

// P7.1: of a number below 1 none, at the beginning, in the texts, at their end, and behind it.
func TestTakeOfFewerThanOne(t *testing.T) {
	for _, l := range lists() {
		s := draws.New(l...)
		want := plainBytes(l, sizeOf(l)+100)
		for at := range want {
			for _, n := range []int{math.MinInt, math.MinInt + 1, -65536, -1, 0} {
				checkTake(t, fmt.Sprintf("%x at %d", l, at), s, n, nil)
			}
			checkTake(t, fmt.Sprintf("%x at %d", l, at), s, 1, want[at:at+1])
		}
	}
}

// P7.1: at MaxSized, about it, and far above it, from some places on.
func TestTakeAboutMaxSized(t *testing.T) {
	const most = api.MaxSized
	for _, l := range [][][]byte{nil, {[]byte("abc")}, {sample.Text(most - 1)}, {sample.Text(most)}, {sample.Text(most), []byte("a")}, {sample.Text(3 * most)}} {
		want := plainBytes(l, 5*most)
		for _, from := range []int{0, 1, 3, 40} {
			for _, n := range []int{most - 1, most, most + 1, 2 * most, 1 << 31, math.MaxInt} {
				what := fmt.Sprintf("%d bytes of texts, from %d on", sizeOf(l), from)
				s := draws.New(l...)
				s.Take(from)
				end := from + min(n, most)
				checkTake(t, what, s, n, want[from:end])
				checkTake(t, what, s, 100, want[end:end+100])
				checkTake(t, what, s, n, want[end+100:end+100+min(n, most)])
			}
		}
	}
}

// P7.1: texts of more than MaxSized bytes, each or together, are told whole.
func TestNewOfMoreThanMaxSized(t *testing.T) {
	big := sample.Text(api.MaxSized + 1)
	for _, l := range [][][]byte{{big}, {big, []byte("x"), big}, {big[1:], big[1:], []byte("y")}} {
		s := draws.New(l...)
		want := plainBytes(l, sizeOf(l)+1000)
		for len(want) > 0 {
			n := min(len(want), 50000)
			checkTake(t, "big texts", s, n, want[:n])
			want = want[n:]
		}
	}
}

// P7.1: the same bytes, parted in other ways, are the same source.
func TestNewOfBytesPartedInOtherWays(t *testing.T) {
	text := sample.Text(70)
	want := plainBytes([][]byte{text}, 300)
	var single [][]byte
	for i := range text {
		single = append(single, text[i:i+1], nil)
	}
	checkTake(t, "byte by byte", draws.New(single...), 300, want)
	for i := range len(text) + 1 {
		for j := i; j <= len(text); j++ {
			checkTake(t, fmt.Sprintf("parted at %d and %d", i, j), draws.New(text[:i], text[i:j], text[j:]), 300, want)
		}
	}
	for _, l := range nothings() {
		checkTake(t, fmt.Sprintf("no bytes, %d texts", len(l)), draws.New(l...), 300, plainBytes(nil, 300))
	}
}

// P7.1: the texts in another order are another source, and each byte of them counts for what is behind them.
func TestNewOfOtherBytes(t *testing.T) {
	checkTake(t, "another order", draws.New([]byte("b"), []byte("a")), 40, plainBytes([][]byte{[]byte("ba")}, 40))
	text := sample.Text(70)
	behind := string(draws.New(text).Take(170)[70:])
	for i := range text {
		other := bytes.Clone(text)
		other[i] ^= 0x80
		if string(draws.New(other).Take(170)[70:]) == behind {
			t.Errorf("the byte %d counts for nothing behind the texts", i)
		}
	}
}

// P7.3: as many at a time each, from one byte on, tell what one Take tells.
func TestTakeOfAsManyEachTime(t *testing.T) {
	for _, l := range lists() {
		want := plainBytes(l, sizeOf(l)+200)
		for n := 1; n < 100; n++ {
			s := draws.New(l...)
			for at := 0; at+n <= len(want); at += n {
				checkTake(t, fmt.Sprintf("%x, %d at a time", l, n), s, n, want[at:at+n])
			}
		}
	}
}

// P7.3: cut at every two places.
func TestTakeCutAnywhere(t *testing.T) {
	l := [][]byte{[]byte("ab"), sample.Text(20)}
	want := draws.New(l...).Take(22 + 32*3 + 2)
	for i := range len(want) + 1 {
		for j := i; j <= len(want); j++ {
			s := draws.New(l...)
			got := append(s.Take(i), s.Take(j-i)...)
			got = append(got, s.Take(len(want)-j)...)
			if !bytes.Equal(got, want) || s.Used() != len(want) {
				t.Fatalf("cut at %d and %d: %x, %d told", i, j, got, s.Used())
			}
		}
	}
}

// P7.3: many small ones, of unlike lengths, tell what one as great as may be does.
func TestTakeOfManySmallOnes(t *testing.T) {
	l := [][]byte{sample.Text(1000), []byte("xyz")}
	want := draws.New(l...).Take(api.MaxSized)
	s := draws.New(l...)
	for i, at := 0, 0; at < len(want); i++ {
		n := min(7*i%131, len(want)-at)
		checkTake(t, fmt.Sprintf("at %d", at), s, n, want[at:at+n])
		at += n
	}
	checkUsed(t, "many small ones", s, api.MaxSized)
}

// P7.1, P7.3: a key is the next 32 bytes, wherever it begins, and what is behind it follows.
func TestKeyAnywhere(t *testing.T) {
	for _, l := range lists() {
		want := plainBytes(l, sizeOf(l)+300)
		for at := range sizeOf(l) + 100 {
			what := fmt.Sprintf("%x from %d on", l, at)
			s := draws.New(l...)
			s.Take(at)
			checkKey(t, what, s, want[at:at+32])
			checkKey(t, what, s, want[at+32:at+64])
			checkTake(t, what, s, 70, want[at+64:at+134])
			checkKey(t, what, s, want[at+134:at+166])
		}
	}
}

// P7.1: keys alone.
func TestKeysAlone(t *testing.T) {
	for _, l := range lists() {
		want := plainBytes(l, 32*20)
		s := draws.New(l...)
		for at := 0; at < len(want); at += 32 {
			checkKey(t, fmt.Sprintf("%x, keys alone", l), s, want[at:at+32])
		}
	}
}
