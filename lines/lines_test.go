package lines_test

import (
	"math"
	"math/big"
	"math/rand"
	"regexp"
	"slices"
	"strings"
	"testing"

	"tollhouse/api"
	"tollhouse/lines"
)

// most is the greatest number of a line.
const most = 4294967295

// pairs are texts, and their lines.
func pairs() map[string]lines.Line {
	return map[string]lines.Line{
		"make data 2":              {Verb: 1, Name: "data", N: 2},
		"make a 0":                 {Verb: 1, Name: "a", N: 0},
		"make zzzz 4294967295":     {Verb: 1, Name: "zzzz", N: most},
		"make make 10":             {Verb: 1, Name: "make", N: 10},
		"gone data":                {Verb: 2, Name: "data"},
		"gone gone":                {Verb: 2, Name: "gone"},
		"gone z":                   {Verb: 2, Name: "z"},
		"mint data 3 99":           {Verb: 3, Name: "data", N: 3, Until: 99},
		"mint * 1 0":               {Verb: 3, N: 1},
		"mint * 0 4294967295":      {Verb: 3, Until: most},
		"mint ab 4294967295 1":     {Verb: 3, Name: "ab", N: most, Until: 1},
		"mint mint 7 7":            {Verb: 3, Name: "mint", N: 7, Until: 7},
		"revoke":                   {Verb: 4},
		"promote 0":                {Verb: 5},
		"promote 1":                {Verb: 5, N: 1},
		"promote 4294967295":       {Verb: 5, N: most},
		"force 0":                  {Verb: 6},
		"force 1":                  {Verb: 6, N: 1},
		"force 1000000000":         {Verb: 6, N: 1000000000},
		"status":                   {Verb: 7},
		"mint * 1000 4000000000":   {Verb: 3, N: 1000, Until: 4000000000},
		"make abc 90":              {Verb: 1, Name: "abc", N: 90},
		"mint zz 12345 4294967294": {Verb: 3, Name: "zz", N: 12345, Until: 4294967294},
	}
}

// want holds Parse of s against that line, and Text of it against s.
func want(t *testing.T, s string, l lines.Line) {
	t.Helper()
	if got, e := lines.Parse(s); e != api.OK || got != l {
		t.Errorf("%q: %v, error %d, want %v", s, got, e, l)
	}
	if got, e := lines.Text(l); e != api.OK || got != s {
		t.Errorf("%v: %q, error %d, want %q", l, got, e, s)
	}
}

// wantNone holds Parse against ErrForm.
func wantNone(t *testing.T, all ...string) {
	t.Helper()
	for _, s := range all {
		if got, e := lines.Parse(s); e != api.ErrForm || got != (lines.Line{}) {
			t.Errorf("%q: %v, error %d", s, got, e)
		}
	}
}

// wantNoText holds Text against ErrForm.
func wantNoText(t *testing.T, all ...lines.Line) {
	t.Helper()
	for _, l := range all {
		if got, e := lines.Text(l); e != api.ErrForm || got != "" {
			t.Errorf("%v: %q, error %d", l, got, e)
		}
	}
}

// The verbs' numbers.
func TestVerbs(t *testing.T) {
	if lines.Make != 1 || lines.Gone != 2 || lines.Mint != 3 || lines.Revoke != 4 || lines.Promote != 5 || lines.Force != 6 || lines.Status != 7 {
		t.Error("other numbers")
	}
}

// P26.1, P26.3: each verb's line, both ways.
func TestLines(t *testing.T) {
	for s, l := range pairs() {
		want(t, s, l)
	}
}

// P26.1: too few words, too many, another word.
func TestWrongWords(t *testing.T) {
	for s := range pairs() {
		words := strings.Split(s, " ")
		for k := range words {
			wantNone(t, strings.Join(words[:k], " "), strings.Join(slices.Delete(slices.Clone(words), k, k+1), " "))
		}
		for _, more := range []string{"0", "1", "a", "*", "status", ""} {
			wantNone(t, s+" "+more, s+" "+more+" "+more)
			wantNone(t, more+" "+s)
		}
	}
	wantNone(t, "", "make", "make a", "make 2", "make 2 a", "gone", "gone a b", "gone a 1", "gone 1", "mint", "mint a", "mint a 1", "mint 1 2", "mint a 1 2 3", "mint a b 1 2", "mint 1 a 2", "revoke 1", "revoke a", "promote", "promote a", "promote 0 1", "force", "force a", "status 1")
	for _, verb := range []string{"Make", "MAKE", "mak", "makes", "ake", "", "*", "1", "create", "stat", "statuss", "revok", "revoked", "forced", "promoted", "minted", "m\x00ke", "mаke"} {
		wantNone(t, verb, verb+" 1", verb+" a", verb+" a 1", verb+" a 1 1")
	}
}

// P26.1: blanks ahead, behind and doubled; and what is no blank.
func TestBlanks(t *testing.T) {
	wantNone(t, " ", "  ", "   ", "    ")
	for s := range pairs() {
		wantNone(t, " "+s, s+" ", " "+s+" ", "  "+s, s+"  ", s+"\n", "\n"+s, s+"\x00", "\t"+s)
		for _, other := range []string{"  ", "\t", "\n", "\u00a0", " \t", "\t ", "", ",", "\x00", "\x1f"} {
			for k := range strings.Count(s, " ") {
				words := strings.SplitN(s, " ", k+2)
				wantNone(t, strings.Join(words[:k+1], " ")+other+words[k+1])
			}
		}
	}
}

// P26.1: each place of a number takes the same ones, and no others.
func TestNumbers(t *testing.T) {
	for text, n := range map[string]int{"0": 0, "1": 1, "9": 9, "10": 10, "100": 100, "255": 255, "256": 256, "65536": 65536, "999999999": 999999999, "2147483647": 1<<31 - 1, "2147483648": 1 << 31, "4294967294": most - 1, "4294967295": most} {
		want(t, "make a "+text, lines.Line{Verb: 1, Name: "a", N: n})
		want(t, "mint a "+text+" 5", lines.Line{Verb: 3, Name: "a", N: n, Until: 5})
		want(t, "mint a 5 "+text, lines.Line{Verb: 3, Name: "a", N: 5, Until: uint32(n)})
		want(t, "promote "+text, lines.Line{Verb: 5, N: n})
		want(t, "force "+text, lines.Line{Verb: 6, N: n})
	}
	for _, text := range []string{
		"00", "01", "007", "010", "0000000000", "04294967295", "+1", "-1", "+0", "-0", "--1", "1-", "1+",
		"4294967296", "4294967297", "4294967300", "5000000000", "9999999999", "10000000000", "8589934592", "12345678901234567890", "18446744073709551615", "18446744073709551616", "18446744073709551617", "99999999999999999999", "36893488147419103233",
		"1_0", "1,0", "1.0", "1e3", "0x1", "0b1", "0o1", "1a", "a1", "a", "x", "", "*", "\x00", "1\x00", "\x001", "١", "１", "½", "²", strings.Repeat("1", 100),
	} {
		wantNone(t, "make a "+text, "mint a "+text+" 5", "mint a 5 "+text, "mint * "+text+" 5", "mint * 5 "+text, "promote "+text, "force "+text)
	}
}

// P26.1: NAME is right, or * of mint.
func TestNames(t *testing.T) {
	for _, name := range []string{"a", "z", "az", "zzz", "data", "aaaa"} {
		want(t, "make "+name+" 1", lines.Line{Verb: 1, Name: name, N: 1})
		want(t, "gone "+name, lines.Line{Verb: 2, Name: name})
		want(t, "mint "+name+" 1 1", lines.Line{Verb: 3, Name: name, N: 1, Until: 1})
	}
	for _, name := range []string{"", "A", "Data", "datA", "datas", "a1", "1", "0", "-", "a-b", "a*", "*a", "**", "_", "`", "{", "é", "ä", "а", "a\x00", "\x00", "\x00\x00", "\xff", "a\t", "a\n", strings.Repeat("a", 150)} {
		wantNone(t, "make "+name+" 1", "gone "+name, "mint "+name+" 1 1")
	}
	wantNone(t, "make * 1", "gone *")
	for c := range 256 {
		s := string([]byte{byte(c)})
		if c >= 'a' && c <= 'z' || s == "*" {
			continue
		}
		wantNone(t, "gone "+s, "make "+s+" 1", "mint "+s+" 1 1", "gone a"+s, "gone "+s+"a")
	}
}

// P26.1: texts of MaxText bytes and one more: ErrForm, the one since there is no such line, the other at once.
func TestLong(t *testing.T) {
	for _, n := range []int{20, 199, 200, 201, 202, 400, 100000} {
		for _, fill := range []string{"a", "1", " ", "0", "\x00"} {
			wantNone(t, strings.Repeat(fill, n), "gone "+strings.Repeat(fill, n-5), "promote "+strings.Repeat(fill, n-8), "status"+strings.Repeat(fill, n-6))
		}
	}
}

// P26.1: fields that a verb does not name, and that aren't zero, have no text.
func TestTextOfOtherFields(t *testing.T) {
	for _, l := range pairs() {
		if l.Verb != lines.Make && l.Verb != lines.Gone && l.Verb != lines.Mint {
			for _, name := range []string{"a", "*", " ", "0", "A"} {
				other := l
				other.Name = name
				wantNoText(t, other)
			}
		}
		if l.Verb == lines.Gone || l.Verb == lines.Revoke || l.Verb == lines.Status {
			for _, n := range []int{1, -1, most, most + 1, math.MaxInt, math.MinInt} {
				other := l
				other.N = n
				wantNoText(t, other)
			}
		}
		if l.Verb != lines.Mint {
			for _, until := range []uint32{1, most} {
				other := l
				other.Until = until
				wantNoText(t, other)
			}
		}
	}
}

// P26.1: N below 0 and too great, Verbs that there aren't, names that may not be.
func TestNoText(t *testing.T) {
	for _, n := range []int{-1, -2, -most, most + 1, most + 2, 1 << 33, 1<<32 + 1<<33, -1 << 32, math.MaxInt, math.MinInt, math.MinInt + 1} {
		wantNoText(t, lines.Line{Verb: 1, Name: "a", N: n}, lines.Line{Verb: 3, Name: "a", N: n, Until: 1}, lines.Line{Verb: 3, N: n}, lines.Line{Verb: 5, N: n}, lines.Line{Verb: 6, N: n})
	}
	for _, verb := range []int{0, 8, 9, -1, -2, -7, 255, 257, 1<<32 + 1, math.MaxInt, math.MinInt} {
		wantNoText(t, lines.Line{Verb: verb}, lines.Line{Verb: verb, Name: "a"}, lines.Line{Verb: verb, Name: "a", N: 1}, lines.Line{Verb: verb, N: 1}, lines.Line{Verb: verb, Name: "a", N: 1, Until: 1}, lines.Line{Verb: verb, Name: "status"}, lines.Line{Verb: verb, Name: "gone a"})
	}
	for _, name := range []string{"*", "A", "abcde", " ", "a ", " a", "a b", "a 1", "1", "a\x00", "\x00", "é", "\xff", "* 1", "a 1 1", strings.Repeat("a", 199), strings.Repeat("a", 100000)} {
		wantNoText(t, lines.Line{Verb: 1, Name: name, N: 1}, lines.Line{Verb: 2, Name: name}, lines.Line{Verb: 3, Name: name, N: 1, Until: 1})
	}
	wantNoText(t, lines.Line{}, lines.Line{Verb: 1, N: 1}, lines.Line{Verb: 2})
}

// grammar is the chapter's words as a pattern, but for how great a number may be.
var grammar = regexp.MustCompile(strings.ReplaceAll(`\A(make [a-z]{1,4} N|gone [a-z]{1,4}|mint (\*|[a-z]{1,4}) N N|revoke|promote N|force N|status)\z`, "N", "(0|[1-9][0-9]*)"))

// digits are a number's.
var digits = regexp.MustCompile("[0-9]+")

// isLine tells whether s is one, by the chapter's words.
func isLine(s string) bool {
	if len(s) > 200 || !grammar.MatchString(s) {
		return false
	}
	for _, word := range digits.FindAllString(s, -1) {
		n, _ := new(big.Int).SetString(word, 10)
		if n.Cmp(big.NewInt(most)) > 0 {
			return false
		}
	}
	return true
}

// P26.1, P26.3: by lot, words that are near to lines: Parse takes just those that are, and Text of them is the text.
func TestByLot(t *testing.T) {
	lot := rand.New(rand.NewSource(26))
	words := []string{"make", "gone", "mint", "revoke", "promote", "force", "status", "a", "data", "zz", "*", "0", "1", "3", "4294967295", "4294967296", "00", "-1", "", "A", "abcde", "77777"}
	var texts []string
	for s := range pairs() {
		texts = append(texts, s)
	}
	slices.Sort(texts)
	seen := map[bool]int{}
	for range 200000 {
		var s string
		if lot.Intn(2) == 0 {
			var l []string
			for range 1 + lot.Intn(4) {
				l = append(l, words[lot.Intn(len(words))])
			}
			s = strings.Join(l, " ")
		} else {
			b := []byte(texts[lot.Intn(len(texts))])
			k := lot.Intn(len(b))
			b[k] = " *-+0159azAZ\x00\xff"[lot.Intn(13)]
			s = string(b)
		}
		l, e := lines.Parse(s)
		ok := isLine(s)
		seen[ok]++
		if ok != (e == api.OK) || !ok && (e != api.ErrForm || l != (lines.Line{})) {
			t.Fatalf("%q: %v, error %d", s, l, e)
		}
		if again, e := lines.Text(l); ok && (e != api.OK || again != s) {
			t.Fatalf("%q: %v: %q, error %d", s, l, again, e)
		}
	}
	if seen[true] < 5000 || seen[false] < 5000 {
		t.Error(seen)
	}
}

// P26.3: by lot, of lines in all their fields: Text has one just if Parse tells that line.
func TestTextByLot(t *testing.T) {
	lot := rand.New(rand.NewSource(263))
	names := []string{"", "", "", "a", "data", "*", "A", "abcde"}
	numbers := []int{0, 0, 0, 1, 9, most, most + 1, -1}
	seen := map[api.Errno]int{}
	for range 100000 {
		l := lines.Line{Verb: lot.Intn(10) - 1, Name: names[lot.Intn(len(names))], N: numbers[lot.Intn(len(numbers))], Until: uint32(max(0, numbers[lot.Intn(6)]))}
		s, e := lines.Text(l)
		seen[e]++
		if e == api.OK {
			if again, f := lines.Parse(s); f != api.OK || again != l || !isLine(s) {
				t.Fatalf("%v: %q: %v, error %d", l, s, again, f)
			}
			continue
		}
		name := l.Name != "" && isLine("gone "+l.Name)
		number := l.N >= 0 && l.N <= most
		may := l.Verb == 1 && name && number && l.Until == 0 || l.Verb == 2 && name && l.N == 0 && l.Until == 0 || l.Verb == 3 && (name || l.Name == "") && number ||
			(l.Verb == 4 || l.Verb == 7) && l == lines.Line{Verb: l.Verb} || (l.Verb == 5 || l.Verb == 6) && l.Name == "" && number && l.Until == 0
		if e != api.ErrForm || s != "" || may {
			t.Fatalf("%v: %q, error %d", l, s, e)
		}
	}
	if seen[api.OK] < 5000 || seen[api.ErrForm] < 5000 {
		t.Error(seen)
	}
}

// P26.2: what stands between blanks, also nothing.
func TestWords(t *testing.T) {
	for s, want := range map[string][]string{
		"": {""}, " ": {"", ""}, "  ": {"", "", ""}, "a": {"a"}, " a": {"", "a"}, "a ": {"a", ""}, "a b": {"a", "b"}, "a  b": {"a", "", "b"}, " a b ": {"", "a", "b", ""}, "make data 2": {"make", "data", "2"},
		"a\tb\nc": {"a\tb\nc"}, "\xff \x00": {"\xff", "\x00"}, "a\u00a0b é": {"a\u00a0b", "é"}, "   a": {"", "", "", "a"},
	} {
		if got := lines.Words(s); !slices.Equal(got, want) {
			t.Errorf("%q: %q, want %q", s, got, want)
		}
	}
	lot := rand.New(rand.NewSource(262))
	for range 5000 {
		b := make([]byte, lot.Intn(300))
		for k := range b {
			b[k] = "  ab\t\x00\xff"[lot.Intn(7)]
		}
		want := []string{""}
		for _, c := range b {
			if c == ' ' {
				want = append(want, "")
			} else {
				want[len(want)-1] += string([]byte{c})
			}
		}
		if got := lines.Words(string(b)); !slices.Equal(got, want) {
			t.Fatalf("%q: %q, want %q", b, got, want)
		}
	}
}

// Rule 2: the words that were told are new each time.
func TestWordsAreNew(t *testing.T) {
	a, b := lines.Words("make data 2"), lines.Words("make data 2")
	clear(a[:cap(a)])
	if !slices.Equal(b, []string{"make", "data", "2"}) {
		t.Error(b)
	}
}
