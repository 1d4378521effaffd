package chacha_test

import (
	"bytes"
	"testing"

	"coffret/api"
	"coffret/chacha"
	"coffret/sample"
)

// P4.2: the examples of RFC 8439, 2.4.2 and A.2.
func TestStreamOfPublishedExamples(t *testing.T) {
	for _, c := range []struct {
		k          api.Key
		n          chacha.Nonce
		count      uint32
		text, laid string
	}{
		{counted(), chacha.Nonce{7: 0x4a}, 1, "Ladies and Gentlemen of the class of '99: If I could offer you only one tip for the future, sunscreen would be it.", "6e2e359a2568f98041ba0728dd0d6981e97e7aec1d4360c20a27afccfd9fae0bf91b65c5524733ab8f593dabcd62b3571639d624e65152ab8f530c359f0861d807ca0dbf500d6a6156a38e088a22b65e52bc514d16ccf806818ce91ab77937365af90bbf74a35be6b40b8eedf2785e42874d"},
		{api.Key{}, chacha.Nonce{}, 0, string(make([]byte, 64)), "76b8e0ada0f13d90405d6ae55386bd28bdd219b8a08ded1aa836efcc8b770dc7da41597c5157488d7724e03fb8d84a376a43b8f41518a11cc387b669b2ee6586"},
		{api.Key{31: 1}, chacha.Nonce{11: 2}, 1, "Any submission to the IETF intended by the Contributor for publication as all or part of an IETF Internet-Draft or RFC and any statement made within the context of an IETF activity is considered an \"IETF Contribution\". Such statements include oral statements in IETF sessions, as well as written and electronic communications made at any time or place, which are addressed to", "a3fbf07df3fa2fde4f376ca23e82737041605d9f4f4f57bd8cff2c1d4b7955ec2a97948bd3722915c8f3d337f7d370050e9e96d647b7c39f56e031ca5eb6250d4042e02785ececfa4b4bb5e8ead0440e20b6e8db09d881a7c6132f420e52795042bdfa7773d8a9051447b3291ce1411c680465552aa6c405b7764d5e87bea85ad00f8449ed8f72d0d662ab052691ca66424bc86d2df80ea41f43abf937d3259dc4b2d0dfb48a6c9139ddd7f76966e928e635553ba76c5c879d7b35d49eb2e62b0871cdac638939e25e8a1e0ef9d5280fa8ca328b351c3c765989cbcf3daa8b6ccc3aaf9f3979c92b3720fc88dc95ed84a1be059c6499b9fda236e7e818b04b0bc39c1e876b193bfe5569753f88128cc08aaa9b63d1a16f80ef2554d7189c411f5869ca52c5b83fa36ff216b9c1d30062bebcfd2dc5bce0911934fda79a86f6e698ced759c3ff9b6477338f3da4f9cd8514ea9982ccafb341b2384dd902f3d1ab7ac61dd29c6f21ba5b862f3730e37cfdc4fd806c22f221"},
		{api.Key([]byte("\x1c\x92\x40\xa5\xeb\x55\xd3\x8a\xf3\x33\x88\x86\x04\xf6\xb5\xf0\x47\x39\x17\xc1\x40\x2b\x80\x09\x9d\xca\x5c\xbc\x20\x70\x75\xc0")), chacha.Nonce{11: 2}, 42, "'Twas brillig, and the slithy toves\nDid gyre and gimble in the wabe:\nAll mimsy were the borogoves,\nAnd the mome raths outgrabe.", "62e6347f95ed87a45ffae7426f27a1df5fb69110044c0d73118effa95b01e5cf166d3df2d721caf9b21e5fb14c616871fd84c54f9d65b283196c7fe4f60553ebf39c6402c42234e32a356b3e764312a61a5532055716ead6962568f87d3f3f7704c6a8d1bcd1bf4d50d6154b6da731b187b58dfd728afa36757a797ac188d1"},
	} {
		if got := chacha.Stream(c.k, c.n, c.count, []byte(c.text)); hex(got) != c.laid {
			t.Errorf("Stream of %q from %d on: %x, want %s", c.text, c.count, got, c.laid)
		}
	}
}

// P4.2: the count goes over its last number, to 0, and over its highest bit; from another program.
func TestStreamWhereTheCountGoesOver(t *testing.T) {
	for _, c := range []struct {
		count uint32
		laid  string
	}{
		{0x7fffffff, "61c7e475cef559b79e4d96d8c28639f1ae31dd3daa6a858dd12b1d88e61af439380f9010c88611b552150952c2443d85b24ba51073764a426d492dda992671dd7c8ec222b532c7ee17660f7b2e205e06ee3986bfe8be618667bedbc924c7c47122f3ef561d58a088961d6faeff31e7ed3673ebb8f0f2dd65cd7b2e579e1f4bad14b32d74e7cf8703920054b13399fc44a4cf8bd10df95ed23277b2dfe9a57fa120cdedffcc46b3f6037fa9e4f287e655ce67741299d392209f2e7e8bbbeee88e3a34f6dcee448de7"},
		{0xfffffffe, "e1e771f374a820540bf8e353862295683b87b6df3c7c33876c0ceb7b18404d19d62e2a693ce9b67d7e1fba835daf596a894caf57b703e104a1226fa2a9b90bb32a81a735b25e7c2bc70fd988f01956366ccaa85fb2b3f6258042e0de884240552f13d436b2f2f5529070491fc2a73f8ae773405e2d37f575e861c75d9de82c2ca318529f05c092dd598234b72d2442e96d35798969d31ecd5e6faa0f546e6d64b353c148fa3492a541ba3467c8098cca509a5c8b964811c8db4184b9f00392578bebb0fb7b1c4022"},
		{0xffffffff, "ea4167f5729ebceb074f99c8b05916762c8a689f727336e54082209ec80200156f539476f232359250b089df02677fcaa733001e6d77b5b528a1079d5d28ecece35812df4580d29d1942f477ede48229adf539c929935e8d1e2feacf94aeada4739301883a74d2e501fa742788494c0a905a9c4b5688d1889b01c4f9b043d2174b2b703bbbdc80e269b367e44f3abe81c2c6fd2b7a653db4e6ff05a0e28d36a21a0774f9e9db98ac19ea7a45f8539c4e3fa1810dcff55ec9ab06f19db99a1c902293103c004e3ca0"},
	} {
		if got := chacha.Stream(someKey(), someNonce(), c.count, sample.Text(200)); hex(got) != c.laid {
			t.Errorf("Stream from %x on: %x, want %s", c.count, got, c.laid)
		}
	}
}

// P4.2: behind the block of the last number stand those of 0 and 1, and no word beside the count is changed by it.
func TestStreamOverTheLastCount(t *testing.T) {
	for _, k := range keys() {
		for _, n := range nonces() {
			var want []byte
			for _, count := range []uint32{1<<32 - 2, 1<<32 - 1, 0, 1} {
				block := chacha.Block(k, n, count)
				want = append(want, block[:]...)
			}
			if got := chacha.Stream(k, n, 1<<32-2, make([]byte, 256)); !bytes.Equal(got, want) {
				t.Errorf("%x, %x: %x, want %x", k, n, got, want)
			}
		}
	}
}

// P4.2, example 1: of no bytes there are none.
func TestStreamOfNoBytes(t *testing.T) {
	for _, b := range [][]byte{nil, {}, sample.Text(70)[:0], sample.Text(70)[70:]} {
		for _, count := range counts() {
			if got := chacha.Stream(someKey(), someNonce(), count, b); len(got) != 0 {
				t.Errorf("Stream of no bytes from %x on: %x", count, got)
			}
		}
	}
}

// P4.2: lengths about whole blocks, at several counts, held against the chapter's words taken plainly.
func TestStreamIsAsTheChapterSays(t *testing.T) {
	for _, size := range lengths() {
		for _, b := range [][]byte{sample.Text(size), make([]byte, size), sample.Ones(size)} {
			for _, count := range counts() {
				got := chacha.Stream(someKey(), someNonce(), count, b)
				if want := plainStream(someKey(), someNonce(), count, b); !bytes.Equal(got, want) {
					t.Errorf("Stream of %d bytes from %x on: %x, want %x", size, count, got, want)
				}
			}
		}
	}
}

// P4.2: other keys and nonces.
func TestStreamByKeysAndNonces(t *testing.T) {
	for _, k := range keys() {
		for _, n := range nonces() {
			got := chacha.Stream(k, n, 3, sample.Text(150))
			if want := plainStream(k, n, 3, sample.Text(150)); !bytes.Equal(got, want) {
				t.Errorf("Stream by %x, %x: %x, want %x", k, n, got, want)
			}
		}
	}
}

// P4.2: a text of more bytes than the limit of a sized one is laid over too, and its blocks are counted on through more than a byte.
func TestStreamOfALongText(t *testing.T) {
	b := sample.Text(api.MaxSized + 4464)
	for _, count := range []uint32{0, 0xfff0, 1<<32 - 256} {
		if !bytes.Equal(chacha.Stream(someKey(), someNonce(), count, b), plainStream(someKey(), someNonce(), count, b)) {
			t.Errorf("Stream of %d bytes from %x on is another", len(b), count)
		}
	}
}

// P4.3: what is laid over twice is as it was.
func TestStreamTwice(t *testing.T) {
	for _, size := range lengths() {
		for _, count := range counts() {
			once := chacha.Stream(someKey(), someNonce(), count, sample.Text(size))
			if twice := chacha.Stream(someKey(), someNonce(), count, once); !bytes.Equal(twice, sample.Text(size)) {
				t.Errorf("%d bytes from %x on, twice: %x", size, count, twice)
			}
		}
	}
}

// P4.3: the first bytes are the same, however many there are, and whatever stands behind them.
func TestStreamsFirstBytes(t *testing.T) {
	for _, count := range counts() {
		whole := chacha.Stream(someKey(), someNonce(), count, sample.Text(300))
		for size := range 301 {
			if part := chacha.Stream(someKey(), someNonce(), count, sample.Text(size)); !bytes.Equal(part, whole[:size]) {
				t.Fatalf("the first %d bytes from %x on: %x, want %x", size, count, part, whole[:size])
			}
		}
		other := append(sample.Text(100), make([]byte, 200)...)
		if got := chacha.Stream(someKey(), someNonce(), count, other); !bytes.Equal(got[:100], whole[:100]) {
			t.Errorf("the first bytes from %x on hang on those behind them", count)
		}
	}
}

// P4.2: what is behind whole blocks is what stands there from a later count on.
func TestStreamBehindWholeBlocks(t *testing.T) {
	for _, count := range counts() {
		whole := chacha.Stream(someKey(), someNonce(), count, sample.Text(300))
		for blocks := range 5 {
			at := 64 * blocks
			if got := chacha.Stream(someKey(), someNonce(), count+uint32(blocks), sample.Text(300)[at:]); !bytes.Equal(got, whole[at:]) {
				t.Errorf("behind %d blocks from %x on: %x, want %x", blocks, count, got, whole[at:])
			}
		}
	}
}

// Rules 4 and 8: what is handed in is as it was, its spare room too.
func TestStreamTouchesNothing(t *testing.T) {
	for _, size := range lengths() {
		b := sample.Spared(sample.Text(size))
		chacha.Stream(someKey(), someNonce(), 1, b)
		if !sample.Untouched(b, sample.Text(size)) {
			t.Errorf("%d bytes that were handed in were written: %x", size, b)
		}
	}
}

// Rule 4: what is handed out is new memory, its spare room too.
func TestStreamHandsOutNewMemory(t *testing.T) {
	for _, size := range lengths() {
		b := sample.Spared(sample.Text(size))
		first := chacha.Stream(someKey(), someNonce(), 1, b)
		second := chacha.Stream(someKey(), someNonce(), 1, b)
		all := first[:cap(first)]
		for i := range all {
			all[i] = '!'
		}
		if !sample.Untouched(b, sample.Text(size)) {
			t.Errorf("%d bytes that were handed in were written: %x", size, b)
		}
		if !bytes.Equal(second, plainStream(someKey(), someNonce(), 1, sample.Text(size))) {
			t.Errorf("%d bytes that were handed out share memory", size)
		}
	}
}

// Rule 4: what was handed in is not kept: changed later on, it changes nothing that was handed out.
func TestStreamKeepsNothing(t *testing.T) {
	b := sample.Text(130)
	laid := chacha.Stream(someKey(), someNonce(), 1, b)
	for i := range b {
		b[i] = '!'
	}
	if !bytes.Equal(laid, plainStream(someKey(), someNonce(), 1, sample.Text(130))) {
		t.Error("what was handed out hangs on what was handed in")
	}
}
