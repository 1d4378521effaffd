package ring_test

import (
	"math"
	"slices"
	"testing"

	"coffret/api"
	"coffret/ring"
)

func checkCheck(t *testing.T, what string, l []member, want api.Errno) {
	t.Helper()
	if got := ring.Check(l); got != want || plainCheck(l) != want {
		t.Errorf("%s: Check of %s: error %d, want %d", what, shownMembers(l), int(got), int(want))
	}
}

// P16.1: from 1 to MaxMembers may be, no more and no fewer.
func TestCheckOfHowMany(t *testing.T) {
	checkCheck(t, "none", nil, api.ErrArg)
	checkCheck(t, "none", []member{}, api.ErrArg)
	checkCheck(t, "none, and room", make([]member, 0, 3), api.ErrArg)
	for n := 1; n <= api.MaxMembers; n++ {
		checkCheck(t, "as many as may be", some(n), api.OK)
	}
	for _, n := range []int{api.MaxMembers + 1, api.MaxMembers + 2, 16, 30} {
		checkCheck(t, "too many", some(n), api.ErrArg)
	}
	many := make([]member, 257)
	for i := range many {
		many[i] = member{Number: i%255 + 1, Key: keyOf(i), Owner: true}
	}
	checkCheck(t, "too many", many, api.ErrArg)
}

// P16.1: each Number is from 1 to 255, whoever has it; others that are the same modulo 256 are not.
func TestCheckOfNumbers(t *testing.T) {
	for n := 1; n <= api.MaxMembers; n++ {
		for at := range n {
			for _, number := range []int{2, 3, 100, 254, 255} {
				m := member{Number: number, Key: keyOf(at), Owner: at == 0}
				checkCheck(t, "a Number", alikeBut(some(n), at, m), api.OK)
			}
			for _, number := range []int{0, -1, -255, -256, 256, 257, 258, 511, 512, 1 << 16, 1<<32 + 2, math.MaxInt, math.MinInt, math.MinInt + 2} {
				m := member{Number: number, Key: keyOf(at), Owner: true}
				checkCheck(t, "a Number that may not be", alikeBut(some(n), at, m), api.ErrArg)
			}
		}
	}
	for number := range 256 {
		want := api.OK
		if number == 0 {
			want = api.ErrArg
		}
		checkCheck(t, "one alone", []member{{Number: number, Owner: true}}, want)
	}
}

// P16.1: no two have one Number, or one Key, wherever they stand, and be they owners or not.
func TestCheckOfTwoAlike(t *testing.T) {
	for n := 2; n <= api.MaxMembers; n++ {
		for i := range n {
			for j := range n {
				if i == j {
					continue
				}
				for _, owner := range []bool{false, true} {
					l := some(n)
					one, other := l[i], l[j]
					other.Owner = other.Owner || owner
					checkCheck(t, "all others", alikeBut(l, j, other), api.OK)
					other.Number = one.Number
					checkCheck(t, "two of one Number", alikeBut(l, j, other), api.ErrArg)
					other.Key = one.Key
					checkCheck(t, "two of one Number and one Key", alikeBut(l, j, other), api.ErrArg)
					other.Number = l[j].Number
					checkCheck(t, "two of one Key", alikeBut(l, j, other), api.ErrArg)
				}
			}
		}
	}
}

// P16.1: Keys are others that are another in one bit, the last one too; and a Key of zeros is one.
func TestCheckOfKeysThatAreNear(t *testing.T) {
	for bit := range 256 {
		var k api.Key
		k[bit/8] = 1 << (bit % 8)
		checkCheck(t, "another in one bit", []member{{Number: 1, Owner: true}, {Number: 2, Key: k}}, api.OK)
		checkCheck(t, "one Key", []member{{Number: 1, Key: k, Owner: true}, {Number: 2, Key: k}}, api.ErrArg)
	}
	checkCheck(t, "two of zeros", []member{{Number: 1, Owner: true}, {Number: 2}}, api.ErrArg)
}

// P16.1: one at the least is an owner, whichever it is; they may all be.
func TestCheckOfOwners(t *testing.T) {
	for n := 1; n <= api.MaxMembers; n++ {
		for owners := range 1 << n {
			l := some(n)
			for i := range l {
				l[i].Owner = owners>>i&1 == 1
			}
			want := api.OK
			if owners == 0 {
				want = api.ErrArg
			}
			checkCheck(t, "some owners", l, want)
		}
	}
}

// P16.1: the order is whatever it is.
func TestCheckOfAnyOrder(t *testing.T) {
	r := chosen(1)
	for range 200 {
		l := some(1 + r.IntN(api.MaxMembers))
		r.Shuffle(len(l), func(i, j int) { l[i], l[j] = l[j], l[i] })
		checkCheck(t, "in some order", l, api.OK)
		slices.Reverse(l)
		checkCheck(t, "in the other order", l, api.OK)
	}
}

// Rule 1: a plain Member{} has no Number that may be.
func TestCheckOfPlainMembers(t *testing.T) {
	checkCheck(t, "plain", []member{{}}, api.ErrArg)
	checkCheck(t, "plain, and an owner", []member{{}, {Number: 1, Key: api.Key{1}, Owner: true}}, api.ErrArg)
	checkCheck(t, "an owner, and plain", []member{{Number: 1, Key: api.Key{1}, Owner: true}, {}}, api.ErrArg)
}

// P16.1: lists by chance, of few Numbers and Keys, against the chapter taken word by word.
func TestCheckByChance(t *testing.T) {
	r := chosen(2)
	right := 0
	for range 20000 {
		l := byChance(r)
		want := plainCheck(l)
		checkCheck(t, "by chance", l, want)
		if want == api.OK {
			right++
		}
	}
	if right < 2000 || right > 18000 {
		t.Errorf("%d of 20000 may be: the lists show little", right)
	}
}
