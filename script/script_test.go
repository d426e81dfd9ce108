package script_test

import (
	"bytes"
	"encoding/hex"
	"math"
	"math/rand"
	"regexp"
	"slices"
	"strconv"
	"strings"
	"testing"

	"tollhouse/api"
	"tollhouse/pair"
	"tollhouse/script"
)

// alike tells whether two entries are.
func alike(a, b api.Entry) bool {
	return a.Kind == b.Kind && a.Place == b.Place && a.Node == b.Node && a.N == b.N && a.Text == b.Text && bytes.Equal(a.Data, b.Data)
}

// samples are lines, and their entries.
func samples() map[string]api.Entry {
	return map[string]api.Entry{
		"tick":                       {Kind: 1},
		"fate 0 0":                   {Kind: 2},
		"fate 3 15":                  {Kind: 2, Place: 3, N: 15},
		"fate 255 255":               {Kind: 2, Place: 255, N: 255},
		"ask 0 -":                    {Kind: 3},
		"ask 2 00":                   {Kind: 3, Place: 2, Data: []byte{0}},
		"ask 7 0123456789abcdef":     {Kind: 3, Place: 7, Data: []byte{1, 0x23, 0x45, 0x67, 0x89, 0xab, 0xcd, 0xef}},
		"ask 1 ff00":                 {Kind: 3, Place: 1, Data: []byte{255, 0}},
		"line 0 status":              {Kind: 4, Text: "status"},
		"line 255 make data 2":       {Kind: 4, Place: 255, Text: "make data 2"},
		"line 1  ":                   {Kind: 4, Place: 1, Text: " "},
		"line 1   a  b ":             {Kind: 4, Place: 1, Text: "  a  b "},
		"line 2 \x00\xff\n\té":       {Kind: 4, Place: 2, Text: "\x00\xff\n\té"},
		"line 3 line 3 line":         {Kind: 4, Place: 3, Text: "line 3 line"},
		"fuse 0 0 0":                 {Kind: 5},
		"fuse 3 1 20":                {Kind: 5, Place: 3, Node: 1, N: 20},
		"fuse 255 254 253":           {Kind: 5, Place: 255, Node: 254, N: 253},
		"make 0 6b":                  {Kind: 6, Data: []byte("k")},
		"make 3 -":                   {Kind: 6, Place: 3},
		"make 200 6b6579":            {Kind: 6, Place: 200, Data: []byte("key")},
		"gone 0":                     {Kind: 7},
		"gone 99":                    {Kind: 7, Place: 99},
		"crash 0 -":                  {Kind: 8},
		"crash 1 01":                 {Kind: 8, Node: 1, Data: []byte{1}},
		"crash 255 0001ff":           {Kind: 8, Node: 255, Data: []byte{0, 1, 255}},
		"boot 0 -":                   {Kind: 9},
		"boot 10 0a":                 {Kind: 9, Node: 10, Data: []byte{10}},
		"cut":                        {Kind: 10},
		"heal":                       {Kind: 11},
		"ask 0 " + long():            {Kind: 3, Data: bytes.Repeat([]byte{0x5a}, 5000)},
		"line 0 " + long() + " more": {Kind: 4, Text: long() + " more"},
	}
}

// long are the digits of 5000 bytes.
func long() string { return strings.Repeat("5a", 5000) }

// want holds Line of s against that entry, and Text of it against s.
func want(t *testing.T, s string, e api.Entry) {
	t.Helper()
	if got, f := script.Line(s); f != api.OK || !alike(got, e) {
		t.Errorf("%.40q: %v, error %d, want %v", s, got, f, e)
	}
	if got, f := script.Text(e); f != api.OK || got != s {
		t.Errorf("%v: %.40q, error %d, want %.40q", e, got, f, s)
	}
}

// wantNone holds Line against ErrForm.
func wantNone(t *testing.T, all ...string) {
	t.Helper()
	for _, s := range all {
		if got, e := script.Line(s); e != api.ErrForm || !alike(got, api.Entry{}) {
			t.Errorf("%.40q: %v, error %d", s, got, e)
		}
	}
}

// wantNoText holds Text against ErrForm.
func wantNoText(t *testing.T, all ...api.Entry) {
	t.Helper()
	for _, e := range all {
		if got, f := script.Text(e); f != api.ErrForm || got != "" {
			t.Errorf("%v: %.40q, error %d", e, got, f)
		}
	}
}

// P30.1: each kind's line, both ways; the chapter's example among them.
func TestLines(t *testing.T) {
	kinds := map[int]int{}
	for s, e := range samples() {
		want(t, s, e)
		kinds[e.Kind]++
	}
	if len(kinds) != 11 {
		t.Error(kinds)
	}
}

// P30.1: too few words, too many, another word; blanks ahead, behind and doubled, but in a text.
func TestWrongWords(t *testing.T) {
	for s, e := range samples() {
		if len(s) > 1000 {
			continue
		}
		words := strings.Split(s, " ")
		first := len(words)
		if e.Kind == api.EntLine {
			first = 2
		} else {
			wantNone(t, s+" ", s+"  ", s+" 0", s+" -", s+" 00", s+" x", s+"\n", s+"\x00")
		}
		for k := range first {
			wantNone(t, strings.Join(words[:k], " "), strings.Join(words[:k], " ")+" ")
			if k > 0 {
				wantNone(t, strings.Join(words[:k], " ")+"  "+strings.Join(words[k:], " "), strings.Join(words[:k], " ")+"\t"+strings.Join(words[k:], " "))
			}
		}
		wantNone(t, " "+s, "\t"+s, "0 "+s, strings.ToUpper(s), "x"+s, s[1:], s[:2]+s[3:], "-"+s)
	}
	wantNone(t, "", " ", "  ", "-", "0", "ticks", "tic", "Tick", "kick", "fates 0 0", "0 fate 0", "lines 0 a", "line", "line ", "line 0", "line 0 ", "line  0 a", "line a 0", "entry 1", "crash 0", "boot -", "ask 0", "make 0", "gone", "cut 0", "heal -")
}

// P30.1: each place of a number takes the same ones, up to 255, and no others.
func TestNumbers(t *testing.T) {
	for n := range 256 {
		text := strconv.Itoa(n)
		want(t, "fate "+text+" 1", api.Entry{Kind: 2, Place: n, N: 1})
		want(t, "fate 1 "+text, api.Entry{Kind: 2, Place: 1, N: n})
		want(t, "ask "+text+" 01", api.Entry{Kind: 3, Place: n, Data: []byte{1}})
		want(t, "line "+text+" a", api.Entry{Kind: 4, Place: n, Text: "a"})
		want(t, "fuse "+text+" 1 2", api.Entry{Kind: 5, Place: n, Node: 1, N: 2})
		want(t, "fuse 1 "+text+" 2", api.Entry{Kind: 5, Place: 1, Node: n, N: 2})
		want(t, "fuse 1 2 "+text, api.Entry{Kind: 5, Place: 1, Node: 2, N: n})
		want(t, "make "+text+" 01", api.Entry{Kind: 6, Place: n, Data: []byte{1}})
		want(t, "gone "+text, api.Entry{Kind: 7, Place: n})
		want(t, "crash "+text+" 01", api.Entry{Kind: 8, Node: n, Data: []byte{1}})
		want(t, "boot "+text+" 01", api.Entry{Kind: 9, Node: n, Data: []byte{1}})
	}
	for _, text := range []string{"", "00", "01", "007", "000", "0255", "256", "257", "300", "999", "1000", "65536", "4294967296", "18446744073709551616", "99999999999999999999", "-1", "-0", "+1", "+0", "1-", "1_0", "0x1", "1.0", "1e1", "a", "ff", "-", "*", "\x00", "1\x00", "١", "１", "²"} {
		wantNone(t, "fate "+text+" 1", "fate 1 "+text, "ask "+text+" 01", "line "+text+" a", "fuse "+text+" 1 2", "fuse 1 "+text+" 2", "fuse 1 2 "+text, "make "+text+" 01", "gone "+text, "crash "+text+" 01", "boot "+text+" 01")
	}
}

// P30.1: HEX: two small digits a byte, or - for none.
func TestHex(t *testing.T) {
	for c := range 256 {
		b := []byte{byte(c), 7, byte(255 - c)}
		s := hex.EncodeToString(b)
		want(t, "ask 0 "+s, api.Entry{Kind: 3, Data: b})
		want(t, "make 0 "+s, api.Entry{Kind: 6, Data: b})
		want(t, "crash 0 "+s, api.Entry{Kind: 8, Data: b})
		want(t, "boot 0 "+s, api.Entry{Kind: 9, Data: b})
		// Of signs that are no digits, at each place.
		if !strings.Contains("0123456789abcdef", string([]byte{byte(c)})) {
			for k := range 4 {
				wrong := []byte("0a1b")
				wrong[k] = byte(c)
				wantNone(t, "ask 0 "+string(wrong), "make 0 "+string(wrong), "crash 0 "+string(wrong), "boot 0 "+string(wrong))
			}
		}
	}
	for _, s := range []string{"", "0", "f", "000", "abc", "AB", "aB", "Ab", "0g", "g0", "--", "-0", "0-", "00-", "-00", "+1", "0x", "0x01", "00 00", " 00", "00 ", "é", "00é", "\x00\x00"} {
		wantNone(t, "ask 0 "+s, "make 0 "+s, "crash 0 "+s, "boot 0 "+s)
	}
}

// P30.1: TEXT: all behind the blank behind PLACE, not empty.
func TestTexts(t *testing.T) {
	for _, s := range []string{" ", "  ", "   ", "a", " a", "a ", "a  b", "0", "-", "\n", "\x00", strings.Repeat(" x", 1000)} {
		want(t, "line 2 "+s, api.Entry{Kind: 4, Place: 2, Text: s})
	}
	wantNone(t, "line 2", "line 2 ")
	wantNoText(t, api.Entry{Kind: 4, Place: 2})
}

// P30.1: entries of fields that a line does not name, and that aren't zero, have no line.
func TestTextOfOtherFields(t *testing.T) {
	names := map[int]string{1: "", 2: "PN", 3: "PD", 4: "PT", 5: "PoN", 6: "PD", 7: "P", 8: "oD", 9: "oD", 10: "", 11: ""}
	turns := map[string]func(e *api.Entry){
		"P": func(e *api.Entry) { e.Place++ },
		"o": func(e *api.Entry) { e.Node++ },
		"N": func(e *api.Entry) { e.N++ },
		"D": func(e *api.Entry) { e.Data = []byte{1} },
		"T": func(e *api.Entry) { e.Text = "a" },
	}
	for s, e := range samples() {
		for field, turn := range turns {
			if strings.Contains(names[e.Kind], field) {
				continue
			}
			other := e
			turn(&other)
			if alike(other, e) {
				t.Fatalf("%.40q: %q: nothing is turned", s, field)
			}
			wantNoText(t, other)
		}
		// Data of no bytes is none.
		if len(e.Data) == 0 {
			e.Data = []byte{}
			want(t, s, e)
		}
	}
}

// P30.1: kinds that there aren't, and numbers that no line has.
func TestNoText(t *testing.T) {
	for _, kind := range []int{0, 12, 13, -1, -2, 255, 257, 1<<32 + 1, math.MaxInt, math.MinInt} {
		wantNoText(t, api.Entry{Kind: kind}, api.Entry{Kind: kind, Place: 1, Node: 1, N: 1, Data: []byte{1}, Text: "a"}, api.Entry{Kind: kind, Text: "tick"})
	}
	for _, n := range []int{-1, -2, 256, 257, 1 << 16, 1 << 32, 1<<32 + 1, math.MaxInt, math.MinInt} {
		wantNoText(t, api.Entry{Kind: 2, Place: n}, api.Entry{Kind: 2, N: n}, api.Entry{Kind: 3, Place: n}, api.Entry{Kind: 4, Place: n, Text: "a"}, api.Entry{Kind: 5, Place: n}, api.Entry{Kind: 5, Node: n}, api.Entry{Kind: 5, N: n}, api.Entry{Kind: 6, Place: n}, api.Entry{Kind: 7, Place: n}, api.Entry{Kind: 8, Node: n}, api.Entry{Kind: 9, Node: n})
	}
}

// grammar is the chapter's words as a pattern.
var grammar = regexp.MustCompile(strings.NewReplacer("N", "(0|[1-9][0-9]?|1[0-9][0-9]|2[0-4][0-9]|25[0-5])", "H", "(-|([0-9a-f][0-9a-f])+)").Replace(`(?s)\A(tick|fate N N|ask N H|line N .+|fuse N N N|make N H|gone N|crash N H|boot N H|cut|heal)\z`))

// P30.1: by lot, words that are near to lines: Line takes just those that are, and Text of the entry is the line.
func TestLinesByLot(t *testing.T) {
	lot := rand.New(rand.NewSource(30))
	words := []string{"tick", "fate", "ask", "line", "fuse", "make", "gone", "crash", "boot", "cut", "heal", "0", "3", "255", "256", "00", "-1", "-", "0a", "ff00", "0A", "abc", "", "x"}
	var all []string
	for s := range samples() {
		if len(s) < 100 {
			all = append(all, s)
		}
	}
	slices.Sort(all)
	seen := map[bool]int{}
	for range 200000 {
		var s string
		if lot.Intn(2) == 0 {
			var l []string
			for range 1 + lot.Intn(5) {
				l = append(l, words[lot.Intn(len(words))])
			}
			s = strings.Join(l, " ")
		} else {
			b := []byte(all[lot.Intn(len(all))])
			b[lot.Intn(len(b))] = " -+0159afAFg\x00"[lot.Intn(13)]
			s = string(b)
		}
		e, f := script.Line(s)
		ok := grammar.MatchString(s)
		seen[ok]++
		if ok != (f == api.OK) || !ok && (f != api.ErrForm || !alike(e, api.Entry{})) {
			t.Fatalf("%q: %v, error %d", s, e, f)
		}
		if again, f := script.Text(e); ok && (f != api.OK || again != s) {
			t.Fatalf("%q: %v: %q, error %d", s, e, again, f)
		}
	}
	if seen[true] < 5000 || seen[false] < 5000 {
		t.Error(seen)
	}
}

// P30.1: by lot, of entries in all their fields: the line of each that has one is its own.
func TestTextByLot(t *testing.T) {
	lot := rand.New(rand.NewSource(301))
	numbers := []int{0, 0, 0, 0, 1, 255, 256, -1}
	seen := map[api.Errno]int{}
	for range 100000 {
		e := api.Entry{Kind: lot.Intn(14) - 1, Place: numbers[lot.Intn(8)], Node: numbers[lot.Intn(8)], N: numbers[lot.Intn(8)]}
		if lot.Intn(2) == 0 {
			e.Data = make([]byte, lot.Intn(3))
			lot.Read(e.Data)
		}
		if lot.Intn(3) == 0 {
			e.Text = []string{" ", "a", "a b"}[lot.Intn(3)]
		}
		s, f := script.Text(e)
		seen[f]++
		if f == api.OK {
			if again, g := script.Line(s); g != api.OK || !alike(again, e) || !grammar.MatchString(s) {
				t.Fatalf("%v: %q: %v, error %d", e, s, again, g)
			}
		} else if f != api.ErrForm || s != "" || hasLine(e) {
			t.Fatalf("%v: %q, error %d", e, s, f)
		}
	}
	if seen[api.OK] < 2000 || seen[api.ErrForm] < 5000 {
		t.Error(seen)
	}
}

// hasLine tells whether an entry has one, by the chapter's words.
func hasLine(e api.Entry) bool {
	number := func(n int) bool { return n >= 0 && n <= 255 }
	want := api.Entry{Kind: e.Kind}
	switch e.Kind {
	case 1, 10, 11:
	case 2:
		want.Place, want.N = e.Place, e.N
	case 3, 6:
		want.Place, want.Data = e.Place, e.Data
	case 4:
		want.Place, want.Text = e.Place, e.Text
		if e.Text == "" {
			return false
		}
	case 5:
		want.Place, want.Node, want.N = e.Place, e.Node, e.N
	case 7:
		want.Place = e.Place
	case 8, 9:
		want.Node, want.Data = e.Node, e.Data
	default:
		return false
	}
	return alike(e, want) && number(e.Place) && number(e.Node) && number(e.N)
}

// sameReplies tells whether two lists of replies are.
func sameReplies(a, b []api.Reply) bool {
	return slices.EqualFunc(a, b, func(x, y api.Reply) bool { return x.Id == y.Id && x.E == y.E && bytes.Equal(x.Data, y.Data) })
}

// P30.2: Play of none, and of nil: as many answers as entries.
func TestPlayOfNone(t *testing.T) {
	if l := script.Play(pair.New()); len(l) != 0 {
		t.Error(l)
	}
	for _, n := range []int{0, 1, 7} {
		l := script.Play(nil, make([]api.Entry, n)...)
		if len(l) != n {
			t.Errorf("%d: %v", n, l)
		}
		for _, told := range append(l, script.Play(nil, scriptByLot(rand.New(rand.NewSource(1)), n)...)...) {
			if len(told) != 0 {
				t.Error(told)
			}
		}
	}
}

// P30.2: by lot: Play is pair.Do, entry by entry, at once or in parts.
func TestPlay(t *testing.T) {
	lot := rand.New(rand.NewSource(302))
	for range 40 {
		l := scriptByLot(lot, 150)
		one, two, parts := pair.New(), pair.New(), pair.New()
		whole := script.Play(one, l...)
		k := lot.Intn(len(l))
		cut := append(script.Play(parts, l[:k]...), script.Play(parts, l[k:]...)...)
		for i, e := range l {
			want := two.Do(e)
			for _, got := range [][]api.Told{whole[i], cut[i]} {
				if !slices.EqualFunc(got, want, func(a, b api.Told) bool {
					return a.Place == b.Place && sameReplies([]api.Reply{a.Reply}, []api.Reply{b.Reply})
				}) {
					t.Fatalf("%v: %v, want %v", e, got, want)
				}
			}
		}
		if len(whole) != len(l) || len(cut) != len(l) || one.Tick() != two.Tick() {
			t.Fatalf("%d, %d of %d", len(whole), len(cut), len(l))
		}
	}
}

// P30.2: Of each place, of places that there aren't: of each entry the replies to it, in order.
func TestOf(t *testing.T) {
	told := func(place, id int) api.Told {
		return api.Told{Place: place, Reply: api.Reply{Id: id, E: api.Errno(id), Data: []byte{byte(id)}}}
	}
	l := [][]api.Told{{told(1, 1), told(0, 2), told(1, 3)}, nil, {told(0, 4)}, {told(-1, 5), told(4, 6), told(-1, 7)}, {}}
	for place, want := range map[int][][]int{0: {{2}, {}, {4}, {}, {}}, 1: {{1, 3}, {}, {}, {}, {}}, 2: {{}, {}, {}, {}, {}}, -1: {{}, {}, {}, {5, 7}, {}}, 4: {{}, {}, {}, {6}, {}}, 1 << 32: {{}, {}, {}, {}, {}}} {
		got := script.Of(place, l)
		if len(got) != len(want) {
			t.Fatalf("%d: %v", place, got)
		}
		for k, ids := range want {
			var replies []api.Reply
			for _, id := range ids {
				replies = append(replies, told(0, id).Reply)
			}
			if !sameReplies(got[k], replies) {
				t.Errorf("%d: %v, want %v", place, got[k], replies)
			}
		}
	}
	for _, none := range [][][]api.Told{nil, {}} {
		if got := script.Of(1, none); len(got) != 0 {
			t.Error(got)
		}
	}
}

// P30.2: Own of each place, of places that there aren't: those that are shared, or of it; a zero entry in each other one's place.
func TestOwn(t *testing.T) {
	var l []api.Entry
	for kind := -1; kind < 14; kind++ {
		for _, place := range []int{0, 1, 2, 3, 4, -1, 7} {
			l = append(l, api.Entry{Kind: kind, Place: place, Node: 1, N: kind, Data: []byte{byte(place), 5}, Text: "status"})
		}
	}
	for _, place := range []int{0, 1, 2, 3, 4, -1, 7, 9, 1 << 32, math.MinInt} {
		got := script.Own(place, l...)
		if len(got) != len(l) {
			t.Fatalf("%d of %d", len(got), len(l))
		}
		for k, e := range l {
			want := e
			if shared := slices.Contains([]int{1, 6, 7, 8, 9, 10, 11}, e.Kind); !shared && e.Place != place {
				want = api.Entry{}
			}
			if !alike(got[k], want) {
				t.Errorf("%d: %v, want %v", place, got[k], want)
			}
		}
	}
	if got := script.Own(1); len(got) != 0 {
		t.Error(got)
	}
}

// P30.3: by lot: Of of what a new pair tells is the same of the entries and of Own of them, for each place, and such as there aren't.
func TestOwnTellsTheSame(t *testing.T) {
	lot := rand.New(rand.NewSource(303))
	for range 80 {
		l := scriptByLot(lot, 160)
		whole := script.Play(pair.New(), l...)
		for _, place := range []int{0, 1, 2, 3, 4, -1} {
			want := script.Of(place, whole)
			got := script.Of(place, script.Play(pair.New(), script.Own(place, l...)...))
			if len(got) != len(want) {
				t.Fatalf("%d of %d", len(got), len(want))
			}
			for k := range want {
				if !sameReplies(got[k], want[k]) {
					t.Fatalf("place %d: %v: %v, want %v", place, l[k], got[k], want[k])
				}
			}
		}
	}
}

// Rule 2: what is told is new, its spare room too: it shares nothing with what was handed in, nor with another answer.
func TestNothingIsShared(t *testing.T) {
	data := []byte{1, 2, 3, 4}
	l := []api.Entry{{Kind: 3, Place: 1, Data: data[:2]}, {Kind: 6, Place: 1, Data: data[2:3]}}
	a, b := script.Own(1, l...), script.Own(1, l...)
	for k := range a {
		clear(a[k].Data[:cap(a[k].Data)])
	}
	clear(a[:cap(a)])
	if !bytes.Equal(data, []byte{1, 2, 3, 4}) || !alike(b[0], l[0]) || !alike(b[1], l[1]) || len(l) != 2 {
		t.Error(data, b, l)
	}
	told := [][]api.Told{{{Place: 1, Reply: api.Reply{Id: 1, Data: data[:2]}}}}
	c, d := script.Of(1, told), script.Of(1, told)
	clear(c[0][0].Data[:cap(c[0][0].Data)])
	clear(c[0][:cap(c[0])])
	clear(c[:cap(c)])
	if !bytes.Equal(data, []byte{1, 2, 3, 4}) || !bytes.Equal(d[0][0].Data, []byte{1, 2}) || told[0][0].Id != 1 {
		t.Error(data, d, told)
	}
	p := pair.New()
	script.Play(p, api.Entry{Kind: api.EntMake, Place: 1, Data: data[:1]})
	clear(data)
	e, _ := script.Line("ask 1 0102")
	f, _ := script.Line("ask 1 0102")
	clear(e.Data[:cap(e.Data)])
	if !bytes.Equal(f.Data, []byte{1, 2}) {
		t.Error(f)
	}
}
