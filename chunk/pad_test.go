package chunk_test

import (
	"bytes"
	"strings"
	"testing"

	"coffret/api"
	"coffret/chunk"
	"coffret/sample"
)

// The chapter's example 1.
func TestPadExample(t *testing.T) {
	b := padded(t, []byte("ab"))
	if want := "\x00\x00\x00\x02ab" + strings.Repeat("\x00", 250); string(b) != want {
		t.Errorf("%s", shown(b))
	}
	checkUnpad(t, b, []byte("ab"))
}

// P12.1: Pad of no bytes, and of nil.
func TestPadOfNone(t *testing.T) {
	for _, text := range [][]byte{nil, {}, sample.Text(9)[:0]} {
		b := padded(t, text)
		if !bytes.Equal(b, make([]byte, 256)) {
			t.Errorf("%s", shown(b))
		}
		checkUnpad(t, b, nil)
	}
}

// texts are some of a length, unlike in what they say: zeros at their end are theirs, and no sign of where they end.
func texts(n int) [][]byte {
	ended := sample.Text(n)
	clear(ended[max(n-7, 0):])
	return [][]byte{sample.Text(n), sample.Ones(n), make([]byte, n), ended}
}

// P12.1, P12.3: the length, the text, and as few zeros as may be; and the text again.
func TestPadOfEachLength(t *testing.T) {
	for _, n := range lengths() {
		for _, text := range texts(n) {
			b := padded(t, text)
			if !bytes.Equal(b, plainPad(text)) {
				t.Errorf("Pad of %s: %s, want %s", shown(text), shown(b), shown(plainPad(text)))
			}
			checkUnpad(t, b, text)
		}
	}
}

// P12.1, P12.3: all lengths of some units, one behind the other.
func TestPadOfSmallTexts(t *testing.T) {
	for n := range 1100 {
		text := sample.Text(n)
		b := padded(t, text)
		if !bytes.Equal(b, plainPad(text)) || len(b)%256 != 0 || len(b) < 4+n || len(b)-256 >= 4+n {
			t.Errorf("Pad of %s: %s", shown(text), shown(b))
		}
		checkUnpad(t, b, text)
	}
}

// P12.1: how long padded texts are, about the edges, as numbers of the document.
func TestPadEdges(t *testing.T) {
	for n, want := range map[int]int{0: 256, 1: 256, 251: 256, 252: 256, 253: 512, 507: 512, 508: 512, 509: 768, 2044: 2048, 2045: 2304, 65535: 65792, 65536: 65792, 65537: 65792, 65788: 65792, 65789: 66048, 4194300: 4194304, 4194301: 4194560, 4194304: 4194560} {
		b := padded(t, sample.Ones(n))
		if len(b) != want {
			t.Errorf("Pad of %d bytes has %d, want %d", n, len(b), want)
		}
		if n > 0 && (b[3+n] != 0xff || bytes.Count(b[4:], []byte{0xff}) != n) {
			t.Errorf("Pad of %d bytes does not end as it should", n)
		}
	}
}

// P12.1: a text of just as many bytes as may be, and longer ones.
func TestPadTooMuch(t *testing.T) {
	b := padded(t, sample.Text(most))
	if string(b[:4]) != "\x00\x40\x00\x00" || len(b) != most+256 {
		t.Errorf("%s", shown(b))
	}
	checkUnpad(t, b, sample.Text(most))
	for _, n := range []int{most + 1, most + 2, most + 252, most + 253, most + 256, 2 * most, 1 << 24, 1<<24 + 7} {
		if b, e := chunk.Pad(make([]byte, n)); e != api.ErrBig || len(b) != 0 {
			t.Errorf("Pad of %d bytes: %d bytes, error %d", n, len(b), int(e))
		}
	}
}

// P12.1: of bytes without a whole number ahead.
func TestUnpadOfNone(t *testing.T) {
	for _, b := range [][]byte{nil, {}} {
		checkNotPadded(t, "none", b)
	}
	for n := 1; n < 10; n++ {
		checkNotPadded(t, "few zeros", make([]byte, n))
		checkNotPadded(t, "few bytes", sample.Text(n))
		checkNotPadded(t, "few ones", sample.Ones(n))
	}
	for _, head := range []string{"\x00\x00\x00\x00", "\x00\x00\x00\x01", "\x00\x00\x00\x01a", "\x00\x00\x00\x02ab", "\x00\x00\x00\xfc"} {
		checkNotPadded(t, "without zeros", []byte(head))
	}
}

// P12.1: zeros behind what is told, of each length: Pad gives such just of no bytes.
func TestUnpadOfZeros(t *testing.T) {
	for n := range 1100 {
		if ok := checkAsPlain(t, "zeros", make([]byte, n)); ok != (n == 256) {
			t.Errorf("%d zeros: %v", n, ok)
		}
	}
}

// P12.1: of what Pad gave, with a unit of zeros too many, one too few, and lengths that are no multiples of Unit.
func TestUnpadOfOtherLengths(t *testing.T) {
	for _, n := range lengths() {
		for _, text := range [][]byte{sample.Text(n), make([]byte, n)} {
			b := padded(t, text)
			for _, more := range []int{1, 4, 128, 255, 256, 257, 512, 2048} {
				checkNotPadded(t, "zeros too many", append(bytes.Clone(b), make([]byte, more)...))
			}
			for _, fewer := range []int{1, 4, 128, 255, 256, 257, 512} {
				checkNotPadded(t, "too few", b[:max(len(b)-fewer, 0)])
			}
			checkNotPadded(t, "a byte more ahead", append([]byte{0}, b...))
			checkNotPadded(t, "a byte less ahead", b[1:])
			checkNotPadded(t, "a unit more ahead", append(make([]byte, 256), b...))
			checkNotPadded(t, "twice", append(bytes.Clone(b), b...))
		}
	}
}

// P12.1: of what Pad gave, cut off anywhere; what lies behind it in its memory is not read.
func TestUnpadCutOff(t *testing.T) {
	for _, n := range []int{0, 1, 2, 251, 252, 253, 300, 508, 509, 1020} {
		for _, text := range [][]byte{sample.Text(n), make([]byte, n)} {
			b := padded(t, text)
			for end := range len(b) {
				checkNotPadded(t, "cut off", b[:end])
				checkAsPlain(t, "without its beginning", b[end+1:])
				checkNotPadded(t, "without a byte", sample.Without(b, end))
				checkNotPadded(t, "with a zero more", sample.With(b, end, 0))
			}
		}
	}
}

// numbered is bytes with that number ahead, and the same ones behind it.
func numbered(number uint32, fill byte, n int) []byte {
	b := bytes.Repeat([]byte{fill}, n)
	copy(b, []byte{byte(number >> 24), byte(number >> 16), byte(number >> 8), byte(number)})
	return b
}

// P12.1: with each number ahead of one unit, and of two: above what is there, or below what needs so much.
func TestUnpadOfEachNumber(t *testing.T) {
	for number := range uint32(1100) {
		n := int(number)
		for _, units := range []int{1, 2, 3} {
			b := numbered(number, 0, 256*units)
			if ok := checkAsPlain(t, "number", b); ok != (256*units-256 < n+4 && n+4 <= 256*units) {
				t.Errorf("%d ahead of %d units of zeros: %v", number, units, ok)
			}
			b = numbered(number, 0xff, 256*units)
			if ok := checkAsPlain(t, "number", b); ok != (n+4 == 256*units) {
				t.Errorf("%d ahead of %d units of ones: %v", number, units, ok)
			}
		}
	}
}

// P12.1: with numbers ahead that are far too great, those too that are small modulo 2^8, 2^16, 2^24 or 2^31, and those that would be below 0.
func TestUnpadOfGreatNumbers(t *testing.T) {
	for _, number := range []uint32{1 << 8, 1 << 16, 1<<16 + 2, 1 << 24, 1<<24 + 2, 1 << 31, 1<<31 + 2, 1<<31 - 1, 1<<32 - 1, 1<<32 - 2, 1<<32 - 4, 1<<32 - 5, 1<<32 - 252, 1<<32 - 256, 1<<32 - 260, most, most + 1} {
		for _, n := range []int{4, 5, 6, 252, 255, 256, 260} {
			checkNotPadded(t, "a number too great", numbered(number, 0, n))
			checkNotPadded(t, "a number too great", numbered(number, 0xff, n))
		}
	}
}

// P12.1: bytes that are formed as Pad would form them, but of a text that is too long.
func TestUnpadOfTooMuch(t *testing.T) {
	for _, n := range []int{most + 1, most + 2, most + 252, most + 253, most + 256, 2 * most} {
		checkNotPadded(t, "too long a text", plainPad(make([]byte, n)))
		checkNotPadded(t, "too long a text", plainPad(sample.Ones(n)))
	}
	checkUnpad(t, plainPad(sample.Ones(most)), sample.Ones(most))
}

// P12.1: a byte behind the text that is not zero, at each place, and of each value.
func TestUnpadWithAByteBehind(t *testing.T) {
	for _, n := range []int{0, 1, 2, 100, 251, 252, 253, 300, 507, 508, 509} {
		text := sample.Text(n)
		for at := 4 + n; at < len(padded(t, text)); at++ {
			for _, x := range []byte{1, 2, 127, 128, 255} {
				b := padded(t, text)
				b[at] = x
				checkNotPadded(t, "a byte behind", b)
			}
		}
	}
	for x := 1; x < 256; x++ {
		b := padded(t, []byte("ab"))
		b[6] = byte(x)
		checkNotPadded(t, "a byte at once behind", b)
		b[6], b[255] = 0, byte(x)
		checkNotPadded(t, "a byte at the end", b)
		b[254], b[255] = byte(-x), byte(x)
		checkNotPadded(t, "two bytes at the end", b)
	}
	for _, at := range []int{most + 4, most + 5, most + 255} {
		b := padded(t, make([]byte, most))
		b[at] = 1
		checkNotPadded(t, "a byte behind as much as may be", b)
	}
}

// P12.1: each bit turned of what Pad gave: of the text it is another text, else as the chapter says it.
func TestUnpadWithATurnedBit(t *testing.T) {
	for _, n := range []int{0, 1, 2, 60, 252, 253} {
		text := sample.Text(n)
		b := padded(t, text)
		for bit := range 8 * len(b) {
			other := sample.Turned(b, bit)
			if at := bit / 8; 4 <= at && at < 4+n {
				checkUnpad(t, other, other[4:4+n])
			} else {
				checkAsPlain(t, "a bit turned", other)
			}
		}
	}
}

// P12.1: bytes that look like chance, with numbers ahead that nearly fit, held against the chapter taken word by word.
func TestUnpadAsThePlainOne(t *testing.T) {
	r := chances(1)
	right := 0
	for range 6000 {
		n := r.IntN(700)
		b := plainPad(sample.Text(n))
		for range r.IntN(3) {
			switch r.IntN(6) {
			case 0:
				b[3] += byte(r.IntN(5) - 2)
			case 1:
				b[2] += byte(r.IntN(3) - 1)
			case 2:
				b[len(b)-1-r.IntN(min(len(b)-4, 8))] = byte(r.IntN(2))
			case 3:
				b = append(b, make([]byte, 256*r.IntN(2))...)
			case 4:
				b[4+r.IntN(len(b)-4)] = byte(r.IntN(256))
			case 5:
				b = append(b, make([]byte, r.IntN(2))...)
			}
		}
		if checkAsPlain(t, "by chance", b) {
			right++
		}
	}
	if right < 1000 || right > 5000 {
		t.Errorf("%d of these are padded texts: no good sample", right)
	}
}

// P12.1: bytes that are unpadded are padded to just these again.
func TestUnpadIsOfOneForm(t *testing.T) {
	for number := range uint32(600) {
		for _, units := range []int{1, 2, 3} {
			b := numbered(number, 0, 256*units)
			if text, e := chunk.Unpad(b); e == api.OK && !bytes.Equal(padded(t, text), b) {
				t.Errorf("%s is unpadded to %s", shown(b), shown(text))
			}
		}
	}
}
