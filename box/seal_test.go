package box_test

import (
	"bytes"
	"fmt"
	"testing"

	"coffret/aead"
	"coffret/api"
	"coffret/box"
	"coffret/chacha"
	"coffret/draws"
	"coffret/sample"
)

// The chapter's example 1.
func TestExample(t *testing.T) {
	for _, mode := range modes() {
		b, _ := made(t, mode)
		if got, e := b.Seal(someKey(), nil, []byte("ab")); e != api.OK || len(got) != 30 {
			t.Errorf("mode %d: %x, error %d", mode, got, e)
		}
	}
}

// P8.2: texts beside texts, each with each, nil too, by some keys, in both modes, behind each other in one box.
func TestSealIsAsTheChapterSays(t *testing.T) {
	for _, mode := range modes() {
		c := paired(t, mode, sample.Text(200))
		for _, k := range keys() {
			for _, text := range texts() {
				for _, beside := range [][]byte{nil, {}, []byte("x"), text, sample.Ones(len(text) + 1)} {
					if got, e := c.seal(t, k, beside, text); e != api.OK || len(got) != len(text)+28 {
						t.Errorf("mode %d: %d bytes are sealed to %d, error %d", mode, len(text), len(got), e)
					}
				}
			}
		}
	}
}

// P8.2, Real: the nonce is what was drawn, and the rest aead.Seal's by it.
func TestSealRealIsNonceAndCipher(t *testing.T) {
	for _, k := range keys() {
		for _, n := range lengths() {
			nonce := sample.Ones(12)
			nonce[n%12] = byte(n)
			b, s := made(t, box.Real, nonce)
			got := sealed(t, b, k, []byte("beside"), sample.Text(n))
			if want := aead.Seal(k, chacha.Nonce(nonce), []byte("beside"), sample.Text(n)); !bytes.Equal(got[:12], nonce) || !bytes.Equal(got[12:], want) {
				t.Errorf("%d bytes by %x: %x, want %x, %x", n, k, got, nonce, want)
			}
			checkState(t, "Seal", b, s, box.Real, 1, 12)
		}
	}
}

// P8.2, Real: the example of RFC 8439, 2.8.2.
func TestSealRealOfPublishedExample(t *testing.T) {
	k := api.Key([]byte("\x80\x81\x82\x83\x84\x85\x86\x87\x88\x89\x8a\x8b\x8c\x8d\x8e\x8f\x90\x91\x92\x93\x94\x95\x96\x97\x98\x99\x9a\x9b\x9c\x9d\x9e\x9f"))
	beside := []byte("\x50\x51\x52\x53\xc0\xc1\xc2\xc3\xc4\xc5\xc6\xc7")
	text := "Ladies and Gentlemen of the class of '99: If I could offer you only one tip for the future, sunscreen would be it."
	b, _ := made(t, box.Real, []byte("\x07\x00\x00\x00\x40\x41\x42\x43\x44\x45\x46\x47"))
	want := "070000004041424344454647" +
		"d31a8d34648e60db7b86afbc53ef7ec2a4aded51296e08fea9e2b5a736ee62d63dbea45e8ca9671282fafb69da92728b1a71de0a9e060b2905d6a5b67ecd3b3692ddbd7f2d778b8c9803aee328091b58fab324e4fad675945585808b4831d7bc3ff4def08e4b7a9de576d26586cec64b6116" +
		"1ae10b594f09e26a7e902ecbd0600691"
	if got := fmt.Sprintf("%x", sealed(t, b, k, beside, []byte(text))); got != want {
		t.Errorf("%s, want %s", got, want)
	}
}

// P8.2, P8.4, Real: the same nonce drawn again is no error there; each Seal counts, though the sealed text be the same.
func TestSealRealOfOneNonce(t *testing.T) {
	b, s := made(t, box.Real, make([]byte, 12*20))
	first := sealed(t, b, someKey(), nil, []byte("ab"))
	for i := 1; i < 20; i++ {
		if got := sealed(t, b, someKey(), nil, []byte("ab")); !bytes.Equal(got, first) {
			t.Errorf("the number %d: %x, want %x", i, got, first)
		}
		checkState(t, "one nonce", b, s, box.Real, i+1, 12*(i+1))
	}
	checkOpened(t, "one nonce", b, someKey(), nil, first, []byte("ab"))
}

// P8.2: just MaxSized bytes, and about as many, as the text, as what is beside it, and as both.
func TestSealAboutMaxSized(t *testing.T) {
	const most = api.MaxSized
	for _, mode := range modes() {
		c := paired(t, mode, sample.Text(5))
		for _, n := range []int{most - 29, most - 28, most - 27, most - 1, most} {
			text := sample.Text(n)
			for _, x := range []struct{ beside, text []byte }{{nil, text}, {text, []byte("ab")}, {text, nil}, {text, text}} {
				got, e := c.seal(t, someKey(), x.beside, x.text)
				if e != api.OK || len(got) != len(x.text)+28 {
					t.Fatalf("mode %d: %d bytes beside %d are sealed to %d, error %d", mode, len(x.text), len(x.beside), len(got), e)
				}
				checkOpened(t, "about MaxSized", c.b, someKey(), x.beside, got, x.text)
				checkRefused(t, "a byte less", c.b, someKey(), x.beside, got[:len(got)-1])
			}
		}
	}
}

// P8.2: one more than MaxSized, and more, on each side: ErrBig, and nothing is drawn or kept.
func TestSealOfTooMuch(t *testing.T) {
	for _, mode := range modes() {
		c := paired(t, mode, sample.Text(5))
		count, used := 0, 0
		for _, n := range []int{api.MaxSized + 1, api.MaxSized + 28, 2 * api.MaxSized, 1 << 20} {
			big := make([]byte, n)
			for _, small := range [][]byte{nil, []byte("ab"), sample.Text(api.MaxSized), big} {
				checkError(t, "too much", c.b, someKey(), nil, big, api.ErrBig)
				checkError(t, "too much", c.b, someKey(), small, big, api.ErrBig)
				checkError(t, "too much", c.b, someKey(), big, small, api.ErrBig)
				checkState(t, "too much", c.b, c.s, mode, count, used)
			}
			c.seal(t, someKey(), nil, []byte("abc"))
			count, used = count+1, used+drawnBytes(mode, 3)
		}
	}
}

// P8.2, P8.5, Ideal: a sealed text is just the bytes that were drawn, whatever the key, the beside and the text say.
func TestSealIdealIsWhatWasDrawn(t *testing.T) {
	for _, n := range append(lengths(), api.MaxSized) {
		drawn := sample.Text(n + 28)
		p := plainBox{source: draws.New(drawn)}
		want := p.draw(n + 78)
		for _, k := range keys() {
			for _, beside := range [][]byte{nil, []byte("x"), sample.Text(n), make([]byte, 99)} {
				for _, text := range [][]byte{sample.Text(n), sample.Ones(n), make([]byte, n)} {
					b, s := made(t, box.Ideal, drawn)
					got := sealed(t, b, k, beside, text)
					if got = append(got, b.Draw(50)...); !bytes.Equal(got, want) {
						t.Errorf("%d bytes: %x, want %x", n, sample.Some(got), sample.Some(want))
					}
					checkState(t, "Ideal", b, s, box.Ideal, 1, n+78)
				}
			}
		}
	}
}

// P8.2, Ideal: what was sealed already is drawn again, up to MaxTries times in all.
func TestSealIdealDrawsAgain(t *testing.T) {
	for _, n := range []int{0, 1, 2, 40} {
		size := n + 28
		for again := range 12 {
			like := bytes.Repeat(sample.Text(size), 1+again)
			fresh := sample.Ones(size)
			b, s := made(t, box.Ideal, like, fresh)
			first := sealed(t, b, someKey(), nil, sample.Text(n))
			got, e := b.Seal(api.Key{9}, []byte("y"), sample.Ones(n))
			what := fmt.Sprintf("%d bytes, drawn %d times again", n, again)
			if again < api.MaxTries {
				if e != api.OK || !bytes.Equal(got, fresh) {
					t.Errorf("%s: %x, error %d", what, got, e)
				}
				checkState(t, what, b, s, box.Ideal, 2, size*(2+again))
				checkOpened(t, what, b, api.Key{9}, []byte("y"), fresh, sample.Ones(n))
			} else {
				if e != api.ErrFull || len(got) != 0 || b.Known(fresh) {
					t.Errorf("%s: %x, error %d", what, got, e)
				}
				checkState(t, what, b, s, box.Ideal, 1, size*(1+api.MaxTries))
			}
			checkOpened(t, what, b, someKey(), nil, first, sample.Text(n))
			checkRefused(t, what, b, api.Key{9}, []byte("y"), first)
		}
	}
}

// P8.2, Ideal: behind ErrFull it goes on, as often as it comes, with what is drawn then.
func TestSealIdealBehindFull(t *testing.T) {
	const size = 30
	zeros := make([]byte, size*(1+8+8+8))
	b, s := made(t, box.Ideal, zeros, sample.Ones(size))
	first := sealed(t, b, someKey(), nil, []byte("ab"))
	for i := range 3 {
		checkError(t, "full", b, api.Key{byte(i)}, nil, []byte("cd"), api.ErrFull)
		checkState(t, "full", b, s, box.Ideal, 1, size*(1+8*(1+i)))
		checkOpened(t, "full", b, someKey(), nil, first, []byte("ab"))
		checkRefused(t, "full", b, api.Key{byte(i)}, nil, first)
	}
	second := sealed(t, b, someKey(), nil, []byte("cd"))
	if !bytes.Equal(second, sample.Ones(size)) {
		t.Errorf("behind it: %x", second)
	}
	checkState(t, "behind full", b, s, box.Ideal, 2, size*(1+8*3+1))
	checkOpened(t, "behind full", b, someKey(), nil, second, []byte("cd"))
}

// P8.2, Ideal: any that was sealed counts, the oldest too, by whatever key; each of the tries may meet another.
func TestSealIdealMeetsEachOfMany(t *testing.T) {
	var drawn []byte
	for i := range 8 {
		drawn = append(drawn, bytes.Repeat([]byte{byte(i)}, 28)...)
	}
	for tries := range 9 {
		b, s := made(t, box.Ideal, drawn, drawn[:28*tries], sample.Text(28))
		for i := range 8 {
			sealed(t, b, api.Key{byte(i)}, []byte{byte(i)}, nil)
		}
		got, e := b.Seal(api.Key{99}, nil, nil)
		if tries < 8 && (e != api.OK || !bytes.Equal(got, sample.Text(28)) || b.Count() != 9) {
			t.Errorf("%d were met: %x, error %d", tries, got, e)
		}
		if tries == 8 && (e != api.ErrFull || len(got) != 0 || b.Count() != 8 || s.Used() != 28*16) {
			t.Errorf("each was met: %x, error %d, %d bytes drawn", got, e, s.Used())
		}
	}
}

// P8.2, Ideal: one that begins like another, or ends so, is another.
func TestSealIdealOfOtherLengths(t *testing.T) {
	b, s := made(t, box.Ideal, make([]byte, 100000))
	used := 0
	for n := range 100 {
		text := sample.Text(n)
		if got := sealed(t, b, someKey(), nil, text); !bytes.Equal(got, make([]byte, n+28)) {
			t.Errorf("%d bytes: %x", n, got)
		}
		used += n + 28
		checkState(t, "zeros", b, s, box.Ideal, n+1, used)
	}
	for n := range 100 {
		checkOpened(t, "zeros", b, someKey(), nil, make([]byte, n+28), sample.Text(n))
	}
	checkRefused(t, "zeros", b, someKey(), nil, make([]byte, 27))
	checkRefused(t, "zeros", b, someKey(), nil, make([]byte, 128))
}

// P8.2, Ideal: what was only drawn, or sealed by another box, was not sealed here.
func TestSealIdealOfWhatWasOnlyDrawn(t *testing.T) {
	b, _ := made(t, box.Ideal, make([]byte, 3*28))
	other, _ := made(t, box.Ideal, make([]byte, 28))
	drawn := b.Draw(28)
	if b.Known(drawn) {
		t.Error("what was drawn is known")
	}
	sealed(t, other, someKey(), nil, nil)
	if got := sealed(t, b, someKey(), nil, nil); !bytes.Equal(got, drawn) {
		t.Errorf("it was drawn again: %x", got)
	}
}

// Rules 4 and 8: what is handed in is as it was, its spare room too, and what lies there is not read.
func TestSealTouchesNothing(t *testing.T) {
	for _, mode := range modes() {
		for _, i := range lengths() {
			for _, j := range lengths() {
				beside, text := sample.Spared(sample.Text(i)), sample.Spared(sample.Ones(j))
				b, _ := made(t, mode)
				got := sealed(t, b, someKey(), beside, text)
				like, _ := made(t, mode)
				if want := sealed(t, like, someKey(), sample.Text(i), sample.Ones(j)); !bytes.Equal(got, want) {
					t.Errorf("mode %d: with spare room: %x, want %x", mode, got, want)
				}
				spared := sample.Spared(got)
				checkOpened(t, "with spare room", b, someKey(), beside, spared, sample.Ones(j))
				if !b.Known(spared) || !sample.Untouched(spared, got) {
					t.Errorf("mode %d: the sealed text was written: %x", mode, spared)
				}
				if !sample.Untouched(beside, sample.Text(i)) || !sample.Untouched(text, sample.Ones(j)) {
					t.Errorf("mode %d: %d bytes beside %d were written: %x, %x", mode, j, i, text, beside)
				}
			}
		}
	}
}

// Rule 4: who changes what was handed in, or handed out, its spare room too, changes nothing of what is kept.
func TestSealSharesNothing(t *testing.T) {
	for _, mode := range modes() {
		for _, n := range lengths() {
			beside, text := sample.Spared(sample.Text(n)), sample.Spared(sample.Ones(n))
			b, _ := made(t, mode, sample.Text(30))
			first := sealed(t, b, someKey(), beside, text)
			second := sealed(t, b, someKey(), beside, text)
			one, two := bytes.Clone(first), bytes.Clone(second)
			overwrite(first)
			if !bytes.Equal(second, two) || !sample.Untouched(beside, sample.Text(n)) || !sample.Untouched(text, sample.Ones(n)) {
				t.Errorf("mode %d: what was handed out shares memory: %x", mode, second)
			}
			overwrite(second)
			overwrite(beside)
			overwrite(text)
			if !b.Known(one) || !b.Known(two) || b.Known(first) || b.Known(second) || b.Count() != 2 {
				t.Errorf("mode %d: what was sealed is another", mode)
			}
			opened, _ := b.Open(someKey(), sample.Text(n), one)
			like, _ := b.Open(someKey(), sample.Text(n), one)
			overwrite(opened)
			if !bytes.Equal(like, sample.Ones(n)) {
				t.Errorf("mode %d: what was opened shares memory: %x", mode, like)
			}
			checkOpened(t, "what was changed", b, someKey(), sample.Text(n), one, sample.Ones(n))
			checkOpened(t, "what was changed", b, someKey(), sample.Text(n), two, sample.Ones(n))
			b.Draw(10)
			drawn := b.Draw(10)
			was := bytes.Clone(drawn)
			overwrite(b.Draw(10))
			if !bytes.Equal(drawn, was) {
				t.Errorf("mode %d: what was drawn shares memory", mode)
			}
		}
	}
}
