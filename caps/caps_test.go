package caps_test

import (
	"bytes"
	"crypto/hmac"
	"crypto/sha256"
	"encoding/hex"
	"math"
	"math/rand"
	"slices"
	"strings"
	"testing"

	"tollhouse/api"
	"tollhouse/caps"
)

// keys are such of no byte, of one, of as many as a block of the hash, of one more, and far more.
func keys() [][]byte {
	var all [][]byte
	for _, n := range []int{0, 1, 2, 31, 32, 63, 64, 65, 66, 128, 1000} {
		key := make([]byte, n)
		for i := range key {
			key[i] = byte(7*i + n)
		}
		all = append(all, key)
	}
	return all
}

// aKey is the key of the ward that most tests ask.
func aKey() []byte { return []byte("a key of its own") }

// aClaim is one that aWard takes.
func aClaim() api.Claim {
	return api.Claim{Place: 2, Name: "data", Rights: 3, Until: 100, Gen: 5}
}

// aWard is one that takes aClaim.
func aWard() caps.Ward {
	return caps.Ward{Key: aKey(), Place: 2, Gen: 5, Tick: 60}
}

// claims are such as may be, at the edges.
func claims() []api.Claim {
	return []api.Claim{
		aClaim(),
		{Rights: 1},
		{Rights: 2},
		{Place: 3, Name: "a", Rights: 2, Until: math.MaxUint32, Gen: math.MaxUint32},
		{Place: 1, Name: "zzzz", Rights: 3, Until: 0x04030201, Gen: 0x08070605},
	}
}

// wrongClaims are such as may not be.
func wrongClaims() []api.Claim {
	var all []api.Claim
	for _, place := range []int{-1, 4, 256, 258, math.MinInt, math.MaxInt} {
		c := aClaim()
		c.Place = place
		all = append(all, c)
	}
	for _, name := range []string{"abcde", "Data", "a\x00", "\x00", "a b", "é"} {
		c := aClaim()
		c.Name = name
		all = append(all, c)
	}
	for _, rights := range []int{0, 4, -1, 7, 257, math.MinInt, math.MaxInt} {
		c := aClaim()
		c.Rights = rights
		all = append(all, c)
	}
	return all
}

// bytesOf are a claim's bytes, as the chapter of layer 14 has them, whether it may be or not.
func bytesOf(c api.Claim) []byte {
	b := []byte{byte(c.Place)}
	b = append(b, (c.Name + "\x00\x00\x00\x00")[:4]...)
	b = append(b, byte(c.Rights))
	for _, n := range []uint32{c.Until, c.Gen} {
		b = append(b, byte(n), byte(n>>8), byte(n>>16), byte(n>>24))
	}
	return b
}

// tagOf is the claim's tag under the key, told by the library.
func tagOf(key []byte, c api.Claim) api.Digest {
	h := hmac.New(sha256.New, key)
	h.Write(bytesOf(c))
	return api.Digest(h.Sum(nil))
}

// tokenOf is the claim's token under the key, whether the claim may be or not.
func tokenOf(key []byte, c api.Claim) api.Token {
	return api.Token{Claim: c, Tag: tagOf(key, c)}
}

// want holds Check against that answer.
func want(t *testing.T, w caps.Ward, tok api.Token, name string, right int, e api.Errno) {
	t.Helper()
	if got := caps.Check(w, tok, name, right); got != e {
		t.Errorf("%v, %v, %q, %d: error %d, want %d", w, tok.Claim, name, right, got, e)
	}
}

// P15.1: a known tag, which comes from elsewhere (openssl's HMAC of the claim's 14 bytes).
func TestKnown(t *testing.T) {
	c := api.Claim{Place: 1, Name: "data", Rights: 3, Until: 9, Gen: 1}
	known := "ba6613b5d0d9e1ed6e38daa5152894f7709d608661a06313683e77005e6f2074"
	if tok, e := caps.Mint([]byte("key"), c); e != api.OK || tok.Claim != c || hex.EncodeToString(tok.Tag[:]) != known {
		t.Errorf("%v, %x, error %d", tok.Claim, tok.Tag, e)
	}
}

// P15.1: the token of each claim, under each key, its tag held against the library's.
func TestMint(t *testing.T) {
	for _, key := range keys() {
		for _, c := range claims() {
			got, e := caps.Mint(key, c)
			if e != api.OK || got.Claim != c || got.Tag != tagOf(key, c) {
				t.Errorf("%d bytes, %v: %v, error %d", len(key), c, got, e)
			}
		}
	}
	if got, e := caps.Mint(nil, aClaim()); e != api.OK || got != tokenOf(nil, aClaim()) {
		t.Errorf("no key: %v, error %d", got, e)
	}
}

// P15.1: a claim that may not be has no token.
func TestMintOfWrongClaims(t *testing.T) {
	for _, key := range keys() {
		for _, c := range wrongClaims() {
			if got, e := caps.Mint(key, c); e != api.ErrForm || got != (api.Token{}) {
				t.Errorf("%v: %v, error %d", c, got, e)
			}
		}
	}
}

// P15.2, P15.3: what was minted is taken, by each place, under each key.
func TestTaken(t *testing.T) {
	for _, key := range keys() {
		for _, c := range claims() {
			tok, _ := caps.Mint(key, c)
			name := c.Name
			if name == "" {
				name = "any"
			}
			for _, tick := range []uint32{0, c.Until / 2, c.Until} {
				want(t, caps.Ward{Key: key, Place: c.Place, Gen: c.Gen, Tick: tick}, tok, name, c.Rights, api.OK)
			}
		}
	}
}

// P15.2: a claim that may not be is no token, though its tag be right and the ward of its place.
func TestCheckOfWrongClaims(t *testing.T) {
	for _, c := range wrongClaims() {
		w := aWard()
		w.Place = c.Place
		for _, tag := range []api.Digest{tagOf(aKey(), c), {}, tagOf(aKey(), aClaim())} {
			for _, right := range []int{0, 1, 2, 3, c.Rights} {
				want(t, w, api.Token{Claim: c, Tag: tag}, c.Name, right, api.ErrToken)
			}
		}
	}
	want(t, caps.Ward{}, api.Token{}, "", 0, api.ErrToken)
	want(t, aWard(), api.Token{}, "data", 1, api.ErrToken)
}

// P15.2: a token of each place, for wards of each place, such as there are and others.
func TestCheckPlace(t *testing.T) {
	for place := range 4 {
		c := aClaim()
		c.Place = place
		for other := -5; other < 10; other++ {
			w := aWard()
			w.Place = other
			e := api.ErrToken
			if other == place {
				e = api.OK
			}
			want(t, w, tokenOf(aKey(), c), "data", 1, e)
		}
		for _, other := range []int{place + 256, place - 256, place + 1<<32, math.MaxInt, math.MinInt} {
			w := aWard()
			w.Place = other
			want(t, w, tokenOf(aKey(), c), "data", 1, api.ErrToken)
		}
	}
}

// P15.2: the chapter's example: a token of another key, of each length.
func TestCheckKey(t *testing.T) {
	for i, key := range keys() {
		for k, other := range keys() {
			w := aWard()
			w.Key = other
			e := api.ErrToken
			if i == k {
				e = api.OK
			}
			want(t, w, tokenOf(key, aClaim()), "data", 1, e)
		}
	}
	for i := range aKey() {
		w := aWard()
		w.Key[i] ^= 1
		want(t, w, tokenOf(aKey(), aClaim()), "data", 1, api.ErrToken)
	}
	w := aWard()
	w.Key = append(w.Key, 1)
	want(t, w, tokenOf(aKey(), aClaim()), "data", 1, api.ErrToken)
}

// P15.2: a tag with one byte turned, each byte by each number, and tags of something else.
func TestCheckTag(t *testing.T) {
	tok := tokenOf(aKey(), aClaim())
	want(t, aWard(), tok, "data", 3, api.OK)
	for i := range tok.Tag {
		for x := 1; x < 256; x++ {
			turned := tok
			turned.Tag[i] ^= byte(x)
			want(t, aWard(), turned, "data", 3, api.ErrToken)
		}
	}
	for _, tag := range []api.Digest{{}, api.Digest(slices.Repeat([]byte{0xff}, 32)), api.Digest(sha256.Sum256(bytesOf(aClaim())))} {
		want(t, aWard(), api.Token{Claim: aClaim(), Tag: tag}, "data", 3, api.ErrToken)
	}
}

// P15.2: each field of the claim is under the tag: changed, the tag is another token's.
func TestCheckClaimUnderTag(t *testing.T) {
	tok := tokenOf(aKey(), aClaim())
	for _, change := range []func(c *api.Claim){
		func(c *api.Claim) { c.Place = 1 },
		func(c *api.Claim) { c.Name = "" },
		func(c *api.Claim) { c.Name = "dat" },
		func(c *api.Claim) { c.Rights = 1 },
		func(c *api.Claim) { c.Rights = 2 },
		func(c *api.Claim) { c.Until++ },
		func(c *api.Claim) { c.Until = math.MaxUint32 },
		func(c *api.Claim) { c.Gen++ },
		func(c *api.Claim) { c.Gen = 0 },
	} {
		turned := tok
		change(&turned.Claim)
		w := aWard()
		w.Place, w.Gen = turned.Place, turned.Gen
		want(t, w, turned, turned.Name, turned.Rights, api.ErrToken)
	}
}

// P15.2, P15.3: another generation, older or newer.
func TestCheckGen(t *testing.T) {
	for _, gen := range []uint32{0, 1, 5, 255, 256, 1 << 31, math.MaxUint32} {
		for _, other := range []uint32{0, 1, 4, 5, 6, 255, 256, 1 << 31, math.MaxUint32 - 1, math.MaxUint32} {
			c, w := aClaim(), aWard()
			c.Gen, w.Gen = gen, other
			e := api.ErrRevoked
			if gen == other {
				e = api.OK
			}
			want(t, w, tokenOf(aKey(), c), "data", 1, e)
		}
	}
}

// P15.2, P15.3: ticks ahead of Until, at it, above.
func TestCheckTick(t *testing.T) {
	for _, until := range []uint32{0, 1, 2, 100, 255, 256, 65535, 1<<31 - 1, 1 << 31, math.MaxUint32 - 1, math.MaxUint32} {
		c, w := aClaim(), aWard()
		c.Until = until
		for _, tick := range []uint32{0, until / 2, until - 1, until, until + 1, until + 2, math.MaxUint32} {
			w.Tick = tick
			e := api.OK
			if uint64(tick) > uint64(until) {
				e = api.ErrExpired
			}
			want(t, w, tokenOf(aKey(), c), "data", 1, e)
		}
	}
}

// P15.2: the token's name, and others; a token without a name is for all names, right or wrong.
func TestCheckName(t *testing.T) {
	for _, own := range []string{"data", "a", "ab", "zzzz"} {
		c := aClaim()
		c.Name = own
		for _, name := range []string{"data", "a", "ab", "zzzz", "", "b", "dat", "datas", "Data", "a\x00", "\x00"} {
			e := api.ErrScope
			if name == own {
				e = api.OK
			}
			want(t, aWard(), tokenOf(aKey(), c), name, 3, e)
		}
	}
	c := aClaim()
	c.Name = ""
	for _, name := range []string{"", "data", "a", "Data", "datas", "\x00", strings.Repeat("x", 1000)} {
		want(t, aWard(), tokenOf(aKey(), c), name, 3, api.OK)
	}
}

// P15.2: each choice of rights, by each right that is asked for.
func TestCheckRights(t *testing.T) {
	for x, ok := range map[[2]int]bool{
		{1, 0}: true, {1, 1}: true, {1, 2}: false, {1, 3}: false,
		{2, 0}: true, {2, 1}: false, {2, 2}: true, {2, 3}: false,
		{3, 0}: true, {3, 1}: true, {3, 2}: true, {3, 3}: true,
		{3, 4}: false, {3, 5}: false, {3, 7}: false, {3, -1}: false, {1, -1}: false, {2, -2}: false,
		{3, 256}: false, {3, 257}: false, {3, 1<<32 + 1}: false, {3, math.MaxInt}: false, {3, math.MinInt}: false, {1, math.MinInt + 1}: false,
	} {
		for _, own := range []string{"", "data"} {
			c := aClaim()
			c.Name, c.Rights = own, x[0]
			e := api.ErrScope
			if ok {
				e = api.OK
			}
			want(t, aWard(), tokenOf(aKey(), c), "data", x[1], e)
		}
	}
}

// P15.2: where several errors hold: the token's own, then the generation, then the tick, then the scope.
func TestCheckOrder(t *testing.T) {
	for choice := range 1 << 7 {
		has := func(bit int) bool { return choice>>bit&1 == 1 }
		c, w, name, right := aClaim(), aWard(), "data", 1
		e := api.OK
		if has(0) {
			name = "other"
			e = api.ErrScope
		}
		if has(1) {
			c.Rights = 2
			e = api.ErrScope
		}
		if has(2) {
			w.Tick = 101
			e = api.ErrExpired
		}
		if has(3) {
			w.Gen = 6
			e = api.ErrRevoked
		}
		tok := tokenOf(aKey(), c)
		if has(4) {
			tok.Tag[17] ^= 0x40
			e = api.ErrToken
		}
		if has(5) {
			w.Place = 1
			e = api.ErrToken
		}
		if has(6) {
			tok.Name = "NONE"
			tok.Tag = tagOf(aKey(), tok.Claim)
			e = api.ErrToken
		}
		want(t, w, tok, name, right, e)
	}
}

// P15.2, P15.3: tokens by lot for wards by lot, held against the words: refused in that order, or taken.
func TestByLot(t *testing.T) {
	lot := rand.New(rand.NewSource(15))
	seen := map[api.Errno]int{}
	for range 20000 {
		c := api.Claim{Place: lot.Intn(2), Name: []string{"", "a", "b"}[lot.Intn(3)], Rights: lot.Intn(3) + 1, Until: uint32(lot.Intn(9)), Gen: uint32(lot.Intn(2))}
		w := caps.Ward{Key: []byte{byte(lot.Intn(2))}, Place: lot.Intn(2), Gen: uint32(lot.Intn(2)), Tick: uint32(lot.Intn(12))}
		key := []byte{byte(lot.Intn(2))}
		name, right := []string{"a", "b"}[lot.Intn(2)], lot.Intn(2)+1
		tok, _ := caps.Mint(key, c)
		var all []api.Errno
		if w.Place != c.Place || w.Key[0] != key[0] {
			all = append(all, api.ErrToken)
		}
		if w.Gen != c.Gen {
			all = append(all, api.ErrRevoked)
		}
		if w.Tick > c.Until {
			all = append(all, api.ErrExpired)
		}
		if c.Name != "" && c.Name != name || c.Rights != 3 && c.Rights != right {
			all = append(all, api.ErrScope)
		}
		all = append(all, api.OK)
		seen[all[0]]++
		want(t, w, tok, name, right, all[0])
	}
	for _, e := range []api.Errno{api.OK, api.ErrToken, api.ErrRevoked, api.ErrExpired, api.ErrScope} {
		if seen[e] < 100 {
			t.Error(seen)
		}
	}
}

// Rules 2 and 4: a key is neither changed, its spare room included, nor kept, and an answer hangs on the arguments alone.
func TestKeyIsLeft(t *testing.T) {
	room := append(aKey(), 7, 8, 9)
	ahead := slices.Clone(room)
	key := room[:len(aKey())]
	tok, e := caps.Mint(key, aClaim())
	w := aWard()
	w.Key = key
	want(t, w, tok, "data", 1, api.OK)
	if e != api.OK || !bytes.Equal(room, ahead) {
		t.Errorf("%x, error %d", room, e)
	}
	key[0] ^= 1
	want(t, w, tok, "data", 1, api.ErrToken)
	want(t, aWard(), tok, "data", 1, api.OK)
	if again, _ := caps.Mint(aKey(), aClaim()); again != tok {
		t.Error("another tag than before")
	}
}
