package names

import (
	"math/rand"
	"slices"
	"strings"
	"testing"

	"tollhouse/api"
)

const letters = "abcdefghijklmnopqrstuvwxyz"

// isRight is what the chapter's words say of one name, told by the letters themselves.
func isRight(name string) bool {
	if name == "" || len(name) >= 5 {
		return false
	}
	for i := range len(name) {
		if strings.IndexByte(letters, name[i]) == -1 {
			return false
		}
	}
	return true
}

// strange are bytes at the edges of the letters, some letters, and others far from them.
func strange() []byte {
	return []byte{0, 'a', 'm', 'z', 'a' - 1, 'z' + 1, 'A', 'Z', ' ', '0', 127, 128, 'a' + 128, 255}
}

// someTexts are all texts of up to five of a few bytes.
func someTexts(bytes ...byte) []string {
	all := []string{""}
	last := all
	for range 5 {
		var next []string
		for _, s := range last {
			for _, b := range bytes {
				next = append(next, s+string([]byte{b}))
			}
		}
		all = append(all, next...)
		last = next
	}
	return all
}

// P10.1: the chapter's example.
func TestExample(t *testing.T) {
	if !Good("data") || Good("Data") {
		t.Error("data, Data")
	}
}

// P10.1: known names, right and wrong, each by itself.
func TestGood(t *testing.T) {
	for name, want := range map[string]bool{
		"a": true, "z": true, "m": true, "ab": true, "abc": true, "abcd": true, "zzzz": true, "aaaa": true, "az": true,
		"": false, "abcde": false, "abcdefgh": false, "aaaaa": false,
		"`": false, "{": false, "a`": false, "{z": false, "ab`d": false, "abc{": false,
		"A": false, "Z": false, "Abc": false, "abcD": false, "aBc": false,
		" ": false, " a": false, "a ": false, "a b": false, "\t": false, "ab\n": false,
		"\x00": false, "a\x00": false, "\x00a": false, "abc\x00": false, "a\x00b": false, "\x00\x00\x00\x00": false,
		"0": false, "a1": false, "a-b": false, "a/b": false, "a_": false, ".": false,
		"\x80": false, "\xff": false, "a\xe1": false, "\xe1": false, "\xfa": false, "abc\x80": false,
		"é": false, "aé": false, "ä": false, "ß": false, "ａ": false, "а": false,
	} {
		if got := Good(name); got != want {
			t.Errorf("%q: %v", name, got)
		}
	}
	if Good(strings.Repeat("a", 1<<20)) {
		t.Error("a long name")
	}
}

// P10.1: each byte at each place of names of each length.
func TestGoodEachByte(t *testing.T) {
	for n := 1; n <= 6; n++ {
		for i := range n {
			for c := range 256 {
				name := []byte("qrstuv"[:n])
				name[i] = byte(c)
				want := n <= 4 && strings.IndexByte(letters, byte(c)) >= 0
				if got := Good(string(name)); got != want {
					t.Errorf("%q: %v", name, got)
				}
			}
		}
	}
}

// P10.1: no names: there is none that is wrong.
func TestGoodOfNone(t *testing.T) {
	if !Good() || !Good(nil...) || !Good([]string{}...) {
		t.Error("no names")
	}
}

// P10.1: of several names one that is wrong will do, wherever it stands; names may be alike.
func TestGoodOfSeveral(t *testing.T) {
	if !Good("a", "b") || !Good("a", "a", "a") || !Good("data", "z", "logs", "abcd", "x") {
		t.Error("all are right")
	}
	for _, wrong := range []string{"", "abcde", "A", "a ", "\x00", "a`", "\xff"} {
		for n := 1; n < 6; n++ {
			for i := range n {
				all := slices.Repeat([]string{"data"}, n)
				all[i] = wrong
				if Good(all...) {
					t.Errorf("%q", all)
				}
			}
		}
	}
	many := slices.Repeat([]string{"data"}, 100000)
	if !Good(many...) {
		t.Error("many")
	}
	many[len(many)-1] = "Data"
	if Good(many...) {
		t.Error("many, the last one is wrong")
	}
}

// P10.1: all texts of a few bytes, and names by lot, held against what the words say.
func TestGoodByLot(t *testing.T) {
	for _, s := range someTexts('a', 'z', 'Z', 0, '{') {
		if got := Good(s); got != isRight(s) {
			t.Errorf("%q: %v", s, got)
		}
	}
	lot := rand.New(rand.NewSource(10))
	seen := map[bool]int{}
	for range 20000 {
		var all []string
		want := true
		for range lot.Intn(4) {
			name := make([]byte, lot.Intn(6))
			for i := range name {
				name[i] = letters[lot.Intn(26)]
				if lot.Intn(12) == 0 {
					name[i] = strange()[lot.Intn(len(strange()))]
				}
			}
			want = want && isRight(string(name))
			all = append(all, string(name))
		}
		seen[want]++
		if got := Good(all...); got != want {
			t.Errorf("%q: %v", all, got)
		}
	}
	if seen[true] < 1000 || seen[false] < 1000 {
		t.Error(seen)
	}
}

// Rule 2: Good changes neither the names nor what lies in their spare room, and looks at none of that.
func TestGoodChangesNothing(t *testing.T) {
	room := []string{"data", "Data", "a", "", "logs", "abcd", "abcde", "z"}
	ahead := slices.Clone(room)
	for first := range room {
		for last := first; last <= len(room); last++ {
			got := Good(room[first:last]...)
			if !slices.Equal(room, ahead) {
				t.Fatalf("%d to %d: %q", first, last, room)
			}
			if want := Good(slices.Clip(slices.Clone(ahead[first:last]))...); got != want {
				t.Errorf("%d to %d: %v", first, last, got)
			}
		}
	}
}

// P10.2: names as long as MaxName, shorter, longer, none, and such as are not right.
func TestPad(t *testing.T) {
	for name, want := range map[string][4]byte{
		"":             {},
		"a":            {'a'},
		"ab":           {'a', 'b'},
		"abc":          {'a', 'b', 'c'},
		"data":         {'d', 'a', 't', 'a'},
		"datas":        {'d', 'a', 't', 'a'},
		"volumes":      {'v', 'o', 'l', 'u'},
		"A":            {'A'},
		"\xff":         {0xff},
		" a\x80{":      {' ', 'a', 0x80, '{'},
		"\x00a":        {0, 'a'},
		"a\x00":        {'a'},
		"a\x00b":       {'a', 0, 'b'},
		"abc\x00e":     {'a', 'b', 'c'},
		"\x00\x00\x00": {},
		"é":            {0xc3, 0xa9},
		"abcé":         {'a', 'b', 'c', 0xc3},
	} {
		if got := Pad(name); got != want {
			t.Errorf("%q: %x, want %x", name, got, want)
		}
	}
	if got := Pad(strings.Repeat("z", 1<<20)); got != [4]byte{'z', 'z', 'z', 'z'} {
		t.Errorf("a long name: %x", got)
	}
}

// P10.2: all texts of a few bytes: the first four of the text with zeros behind it.
func TestPadEach(t *testing.T) {
	for _, s := range someTexts('a', 'z', 'A', 0, 0xff) {
		want := []byte(s + "\x00\x00\x00\x00")[:4]
		if got := Pad(s); !slices.Equal(got[:], want) {
			t.Errorf("%q: %x, want %x", s, got, want)
		}
	}
}

// wantCut holds Cut of b against being that name.
func wantCut(t *testing.T, b [4]byte, want string) {
	t.Helper()
	if name, ok := Cut(b); name != want || !ok {
		t.Errorf("%x: %q, %v, want %q", b, name, ok, want)
	}
}

// wantNone holds Cut of b against telling no name.
func wantNone(t *testing.T, b [4]byte) {
	t.Helper()
	if name, ok := Cut(b); name != "" || ok {
		t.Errorf("%x: %q, %v", b, name, ok)
	}
}

// P10.2: known bytes that are names', that are zeros, and that are neither.
func TestCut(t *testing.T) {
	for name, b := range map[string][4]byte{
		"":     {},
		"a":    {'a'},
		"z":    {'z'},
		"ab":   {'a', 'b'},
		"abc":  {'a', 'b', 'c'},
		"data": {'d', 'a', 't', 'a'},
		"zzzz": {'z', 'z', 'z', 'z'},
	} {
		wantCut(t, b, name)
	}
	for _, b := range [][4]byte{
		{0, 'a'}, {0, 0, 'a'}, {0, 0, 0, 'a'}, {0, 'a', 'b', 'c'}, {0, 'a', 0, 0},
		{'a', 0, 'b'}, {'a', 0, 0, 'b'}, {'a', 'b', 0, 'c'}, {'a', 0, 'b', 0}, {'a', 0, 'b', 'c'},
		{'A'}, {'a', 'B'}, {'D', 'a', 't', 'a'}, {'d', 'a', 't', 'A'},
		{' '}, {'a', ' '}, {'a', 'b', 'c', ' '}, {' ', ' ', ' ', ' '}, {'a', '`'}, {'{'},
		{1}, {0, 0, 0, 1}, {255}, {'a', 255}, {0xff, 0xff, 0xff, 0xff}, {'a', 'b', 'c', 0x80}, {'a' + 128}, {0xc3, 0xa9}, {0, 0xff},
	} {
		wantNone(t, b)
	}
}

// P10.2: each byte at each place of each name's bytes, zeros among them.
func TestCutEachByte(t *testing.T) {
	for _, b := range [][4]byte{{}, {'q'}, {'q', 'r'}, {'q', 'r', 's'}, {'q', 'r', 's', 't'}} {
		for i := range b {
			for c := range 256 {
				turned := b
				turned[i] = byte(c)
				if want, ok := cutBySearch(turned); ok {
					wantCut(t, turned, want)
				} else {
					wantNone(t, turned)
				}
			}
		}
	}
}

// P10.2: all four of a few bytes.
func TestCutEach(t *testing.T) {
	found := 0
	for _, c0 := range strange() {
		for _, c1 := range strange() {
			for _, c2 := range strange() {
				for _, c3 := range strange() {
					b := [4]byte{c0, c1, c2, c3}
					if want, ok := cutBySearch(b); ok {
						found++
						wantCut(t, b, want)
					} else {
						wantNone(t, b)
					}
				}
			}
		}
	}
	if found != 1+3+9+27+81 {
		t.Error("found:", found)
	}
}

// cutBySearch is what the words say of Cut: of the beginnings of b the one that is right, or empty, and whose Pad b is.
func cutBySearch(b [4]byte) (string, bool) {
	for n := range 5 {
		name := string(b[:n])
		if (n == 0 || isRight(name)) && [4]byte([]byte(name + "\x00\x00\x00\x00")[:4]) == b {
			return name, true
		}
	}
	return "", false
}

// P10.3: Cut of Pad is the name, of all right names of up to three letters and of some of four; of longer ones what is left of them.
func TestCutOfPad(t *testing.T) {
	wantCut(t, Pad(""), "")
	for _, a := range letters {
		wantCut(t, Pad(string(a)), string(a))
		for _, b := range letters {
			wantCut(t, Pad(string([]rune{a, b})), string([]rune{a, b}))
			for _, c := range letters {
				name := string([]rune{a, b, c})
				wantCut(t, Pad(name), name)
				wantCut(t, Pad(name+"x"), name+"x")
				wantCut(t, Pad(name+"yz"), name+"y")
			}
		}
	}
}

// P10.3: whatever the text, what Cut tells of its Pad is right, or empty, and has the same Pad.
func TestCutOfAnyPad(t *testing.T) {
	for _, s := range someTexts('a', 'z', 'Z', 0, 0xff) {
		name, ok := Cut(Pad(s))
		if name != "" && (!Good(name) || !isRight(name)) || ok && Pad(name) != Pad(s) || !ok && name != "" {
			t.Errorf("%q: %q, %v", s, name, ok)
		}
		if isRight(s) && name != s {
			t.Errorf("%q: %q, %v", s, name, ok)
		}
	}
}

// Rule 2: what Cut tells stays as it is when its bytes change, and the bytes stay as they are.
func TestCutIsNew(t *testing.T) {
	b := [api.MaxName]byte{'d', 'a', 't', 'a'}
	name, _ := Cut(b)
	if b != [4]byte{'d', 'a', 't', 'a'} {
		t.Errorf("%x", b)
	}
	b[0] = 'x'
	if name != "data" {
		t.Errorf("%q", name)
	}
}

// Rule 4: an answer hangs on the arguments alone.
func TestNothingRemembered(t *testing.T) {
	for range 3 {
		if !Good("data") || Good("data", "Data") || !Good() || Good("") {
			t.Error("another answer than before")
		}
		wantCut(t, Pad("data"), "data")
		wantNone(t, [4]byte{'a', 0, 'b'})
		wantCut(t, [4]byte{}, "")
		if Pad("ab") != [4]byte{'a', 'b'} {
			t.Error("another Pad than before")
		}
	}
}
