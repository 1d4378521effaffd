package ring

import (
	"bytes"

	"coffret/api"
	"coffret/box"
	"coffret/wire"
)

const (
	keysBytes    = WrapBytes - box.Over // of a wrapped key's text
	membersBytes = DirBytes - box.Over  // of the members' text
	epochBytes   = 8
	keyBytes     = len(api.Key{})
)

// What tells in a text whether somebody is an owner.
const (
	anOwner = 1
	noOwner = 0
)

// toldTo is what a member learns of the keys.
func (k Keys) toldTo(m Member) Keys {
	k.Owns = m.Owner
	if !m.Owner {
		k.Owner = api.Key{}
	}
	return k
}

// text is a wrapped key's text.
func (k Keys) text() []byte {
	text := wire.Put(nil, k.Epoch, epochBytes)
	text = append(text, k.Key[:]...)
	text = append(text, ownerByte(k.Owns))
	return append(text, k.Owner[:]...)
}

// keysOf tells what a wrapped key's text says; false: it is none.
func keysOf(text []byte) (Keys, bool) {
	if len(text) != keysBytes {
		return Keys{}, false
	}
	from := wire.New(text)
	k := Keys{Epoch: from.Num(epochBytes)}
	k.Key = nextKey(from)
	owner := from.Num(1)
	k.Owner, k.Owns = nextKey(from), owner == anOwner
	if owner > anOwner || k != k.toldTo(Member{Owner: k.Owns}) {
		return Keys{}, false
	}
	return k, true
}

// textOf is the members' text, of such that may be.
func textOf(l []Member) []byte {
	text := []byte{byte(len(l))}
	for _, m := range l {
		text = append(text, byte(m.Number), ownerByte(m.Owner))
		text = append(text, m.Key[:]...)
	}
	return append(text, make([]byte, membersBytes-len(text))...)
}

// membersOf tells the members of their text; false: it is none, or of such that may not be.
func membersOf(text []byte) ([]Member, bool) {
	from := wire.New(text)
	var l []Member
	for range from.Num(1) {
		m := Member{Number: int(from.Num(1)), Owner: from.Num(1) == anOwner}
		m.Key = nextKey(from)
		l = append(l, m)
	}
	if Check(l) != api.OK || !bytes.Equal(textOf(l), text) {
		return nil, false
	}
	return l, true
}

// nextKey reads a key; it is zero where bytes are missing.
func nextKey(from *wire.Reader) api.Key {
	var k api.Key
	copy(k[:], from.Raw(keyBytes))
	return k
}

func ownerByte(owner bool) byte {
	if owner {
		return anOwner
	}
	return noOwner
}
