package tests

import (
	"regexp"
	"slices"
	"strconv"
	"strings"
	"testing"

	"loop.example/ostiary/impl"
)

// What the document says of texts, written a second time, by other means than the program's.
var (
	okText    = regexp.MustCompile(`\A[a-z0-9@:;]{0,40}\z`)
	nameThere = regexp.MustCompile(`\A@([1-6]):([1-9]);|\A@(9):(1[0-7]);`)
	heldThere = regexp.MustCompile(`@([1-9](:([1-9][0-9]?)?)?)?\z`)
	wholeForm = regexp.MustCompile(`\A@[1-9]:[1-9][0-9]?;\z`)
)

func wantHeld(text string) int {
	if !okText.MatchString(text) {
		return 0
	}
	return len(heldThere.FindString(text))
}

func wantPieces(text string) []impl.Piece {
	var all []impl.Piece
	if !okText.MatchString(text) {
		return all
	}
	for rest := text; len(rest) > wantHeld(text); {
		p := impl.Piece{Size: 1}
		if m := nameThere.FindStringSubmatch(rest); m != nil {
			addr, _ := strconv.Atoi(m[1] + m[3])
			port, _ := strconv.Atoi(m[2] + m[4])
			p = impl.Piece{Size: len(m[0]), Named: true, End: impl.End{Addr: addr, Port: port}}
		}
		all = append(all, p)
		rest = rest[p.Size:]
	}
	return all
}

// name is the name of an end, not by the program's own EndText.
func name(e impl.End) string {
	return "@" + strconv.Itoa(e.Addr) + ":" + strconv.Itoa(e.Port) + ";"
}

// fragments are what texts are put together of: names of each side, their beginnings, and what is nearly one.
var fragments = []string{
	"a", "z", "0", "5", ":", ";", "1:1;",
	"@", "@1", "@9", "@1:", "@9:", "@1:1", "@9:1", "@9:10", "@9:17", "@1:10", "@7:7", "@9:99",
	"@1:1;", "@3:9;", "@4:1;", "@6:9;", "@9:10;", "@9:17;",
	"@0", "@0:1;", "@1:0;", "@1:01;", "@01:1;", "@1:10;", "@7:1;", "@8:10;", "@9:9;", "@9:18;", "@9:100", "@9:123;", "@11:1;", "@1;", "@:1;", "@;", "@1:;", "@1::1;", "@a",
}

// okTexts tells ok texts: all short ones of those bytes that matter, all of at most three fragments, and long ones.
func okTexts(tell func(string)) {
	allTexts("@109:;a", 5, tell)
	for _, a := range fragments {
		for _, b := range fragments {
			tell(a + b)
			for _, c := range fragments {
				tell(a + b + c)
			}
		}
	}
	for _, f := range fragments {
		long := strings.Repeat("a", 40)
		tell(long[:40-len(f)] + f)
		tell(f + long[:40-len(f)])
		tell(strings.Repeat(f, 40/len(f)))
	}
}

// fewTexts is texts for what is tried many times of each.
func fewTexts() []string {
	all := []string{"", strings.Repeat("a", 40), strings.Repeat("a", 35) + "@9:12", strings.Repeat("@1:1;", 8)}
	for _, a := range fragments {
		all = append(all, a)
		for _, b := range fragments {
			all = append(all, a+b)
		}
	}
	return all
}

// wrongTexts are not ok, though most have names in them, or end with the beginning of one.
func wrongTexts() []string {
	all := []string{
		strings.Repeat("a", 41), strings.Repeat("a", 40) + "@", strings.Repeat("@1:1;", 8) + "a", strings.Repeat("@9:10;", 7),
		strings.Repeat("a", 36) + "@9:12", strings.Repeat("@1:1;", 100000), strings.Repeat("@", 100000),
		"@1:1; ", " @1:1;", "@1:1;A@9:10;", "\n@", "@1:1;é@", "\xff@", "@1:1;\x00", "@1 :1;", "@1:1;-@9:1", "@１:1;",
	}
	for b := range 256 {
		if s := string([]byte{byte(b)}); !okText.MatchString(s) {
			all = append(all, s, s+"@1", "@1:1;"+s+"@4:4;@")
		}
	}
	return all
}

func samePieces(t *testing.T, what string, got, want []impl.Piece) {
	t.Helper()
	if !slices.Equal(got, want) {
		t.Fatalf("%s: pieces are %v, want %v", what, got, want)
	}
}

func namesOf(pieces []impl.Piece) []impl.End {
	var ends []impl.End
	for _, p := range pieces {
		if p.Named {
			ends = append(ends, p.End)
		}
	}
	return ends
}

func pieceOf(e impl.End) impl.Piece {
	return impl.Piece{Size: len(name(e)), Named: true, End: e}
}

func TestTextLimit(t *testing.T) {
	t.Parallel()
	if impl.TextMax != 40 {
		t.Errorf("TextMax is %d", impl.TextMax)
	}
	for _, one := range []string{"a", "z", "0", "9", "@", ":", ";"} {
		for _, c := range []struct {
			size int
			ok   bool
		}{{0, true}, {1, true}, {39, true}, {40, true}, {41, false}, {42, false}, {80, false}, {256, false}, {296, false}, {65536, false}} {
			if got := impl.TextOk(strings.Repeat(one, c.size)); got != c.ok {
				t.Errorf("TextOk of %d times %q is %v", c.size, one, got)
			}
		}
	}
	for b := range 256 {
		one := string([]byte{byte(b)})
		if got, want := impl.TextOk(one), okText.MatchString(one); got != want {
			t.Errorf("TextOk(%q) is %v", one, got)
		}
	}
}

func TestTextHeldEdges(t *testing.T) {
	t.Parallel()
	for text, want := range map[string]int{
		"": 0, "a": 0, "1": 0, "1:1": 0, ":": 0, ";": 0,
		"@": 1, "@1": 2, "@9": 2, "@8": 2, "@1:": 3, "@8:": 3, "@1:1": 4, "@1:9": 4, "@7:7": 4, "@9:1": 4, "@9:9": 4,
		"@9:10": 5, "@9:17": 5, "@9:18": 5, "@1:10": 5, "@1:99": 5, "@7:70": 5,
		"@0": 0, "@00": 0, "@a": 0, "@:": 0, "@;": 0, "@1a": 0, "@11": 0, "@10": 0, "@1;": 0,
		"@1:0": 0, "@1:a": 0, "@1::": 0, "@1:;": 0, "@1:1a": 0, "@1:1:": 0, "@1:1;": 0, "@9:1;": 0,
		"@9:123": 0, "@9:100": 0, "@9:10:": 0, "@9:10a": 0, "@9:10;": 0,
		"@@": 1, "@1@": 1, "@1@2": 2, "@1:@": 1, "@9:10@": 1, "@9:10@9:10": 5, "@1:1;@": 1, "@1:1;@1": 2, "x@2": 2, "@ax": 0,
		strings.Repeat("a", 39) + "@": 1, strings.Repeat("a", 35) + "@9:10": 5, strings.Repeat("a", 36) + "@9:10": 0, strings.Repeat("a", 40) + "@": 0,
	} {
		if got := impl.TextHeld(text); got != want {
			t.Errorf("TextHeld(%q) is %d, want %d", text, got, want)
		}
	}
}

func TestTextPiecesEdges(t *testing.T) {
	t.Parallel()
	one := impl.Piece{Size: 1}
	of := func(addr, port int) impl.Piece { return pieceOf(impl.End{Addr: addr, Port: port}) }
	for text, want := range map[string][]impl.Piece{
		"":                nil,
		"a":               {one},
		"@1:1;":           {of(1, 1)},
		"@3:9;":           {of(3, 9)},
		"@4:1;":           {of(4, 1)},
		"@6:9;":           {of(6, 9)},
		"@9:10;":          {of(9, 10)},
		"@9:17;":          {of(9, 17)},
		"@1:1;@9:10;@4:4": {of(1, 1), of(9, 10)},
		"@@1:1;":          {one, of(1, 1)},
		"@1@1:1;":         {one, one, of(1, 1)},
		"@9:10@9:10;":     {one, one, one, one, one, of(9, 10)},
		"@1:1;1:1;":       {of(1, 1), one, one, one, one},
		"@7:7;":           {one, one, one, one, one},
		"@9:9;":           {one, one, one, one, one},
		"@1:10;":          {one, one, one, one, one, one},
		"@9:18;":          {one, one, one, one, one, one},
		"@0:1;":           {one, one, one, one, one},
		"@1:0;":           {one, one, one, one, one},
		"@1:01;":          {one, one, one, one, one, one},
		"@":               nil,
		"a@1:1":           {one},
		"@1:1@":           {one, one, one, one},
	} {
		samePieces(t, text, impl.TextPieces(text), want)
	}
}

// All short texts, and all of fragments, against what the document says, written a second time.
func TestTextsAsWritten(t *testing.T) {
	t.Parallel()
	okTexts(func(text string) {
		if !impl.TextOk(text) {
			t.Fatalf("TextOk(%q) is false", text)
		}
		if got, want := impl.TextHeld(text), wantHeld(text); got != want {
			t.Fatalf("TextHeld(%q) is %d, want %d", text, got, want)
		}
		want := wantPieces(text)
		samePieces(t, text, impl.TextPieces(text), want)
		if got := impl.TextNames(text); !slices.Equal(got, namesOf(want)) {
			t.Fatalf("TextNames(%q) is %v, want %v", text, got, namesOf(want))
		}
	})
}

func TestTextsThatAreNotOk(t *testing.T) {
	t.Parallel()
	for _, text := range wrongTexts() {
		if impl.TextOk(text) || impl.TextHeld(text) != 0 || len(impl.TextPieces(text)) != 0 || len(impl.TextNames(text)) != 0 {
			t.Errorf("%.60q: ok is %v, held %d, pieces %v, names %v", text, impl.TextOk(text), impl.TextHeld(text), impl.TextPieces(text), impl.TextNames(text))
		}
	}
}

// What one call answers is not seen in what another does, spare room included.
func TestTextAnswersAreNew(t *testing.T) {
	t.Parallel()
	const text = "@1:1;@9:10;a@4:4;@1"
	pieces, names := impl.TextPieces(text), impl.TextNames(text)
	for i := range pieces[:cap(pieces)] {
		pieces[:cap(pieces)][i] = impl.Piece{Size: 7}
	}
	for i := range names[:cap(names)] {
		names[:cap(names)][i] = impl.End{Addr: 7}
	}
	samePieces(t, text, impl.TextPieces(text), wantPieces(text))
	if got := impl.TextNames(text); !slices.Equal(got, namesOf(wantPieces(text))) {
		t.Errorf("TextNames(%q) is %v", text, got)
	}
}

// P7
func TestP7PartsOfOkTexts(t *testing.T) {
	t.Parallel()
	for _, text := range fewTexts() {
		for i := 0; i <= len(text); i++ {
			if !impl.TextOk(text[:i]) || !impl.TextOk(text[i:]) {
				t.Fatalf("%q is cut at %d, and not ok", text, i)
			}
		}
	}
	for _, text := range []string{"", "a", "@1:1;", "x@9:17;@", strings.Repeat("a", 39)} {
		for b := range 256 {
			one := string([]byte{byte(b)})
			for i := 0; i <= len(text); i++ {
				more := text[:i] + one + text[i:]
				if got, want := impl.TextOk(more), okText.MatchString(one); got != want {
					t.Errorf("TextOk(%q) is %v", more, got)
				}
			}
		}
	}
}

// P8
func TestP8PiecesAreTheText(t *testing.T) {
	t.Parallel()
	okTexts(func(text string) {
		at := 0
		for _, p := range impl.TextPieces(text) {
			if p.Size < 1 || at+p.Size > len(text) {
				t.Fatalf("%q: a piece of %d bytes at %d", text, p.Size, at)
			}
			there := text[at : at+p.Size]
			if p.Named && there != name(p.End) {
				t.Fatalf("%q: %q is told to name %v", text, there, p.End)
			}
			if !p.Named && (p.Size != 1 || p.End != impl.End{}) {
				t.Fatalf("%q: a piece that names nobody is %v", text, p)
			}
			at += p.Size
		}
		if at != len(text)-impl.TextHeld(text) {
			t.Fatalf("%q: pieces have %d bytes, %d are held", text, at, impl.TextHeld(text))
		}
	})
}

// P9
func TestP9ByteByByte(t *testing.T) {
	t.Parallel()
	okTexts(func(text string) {
		whole := impl.TextPieces(text)
		for i := range len(text) {
			first := impl.TextPieces(text[:i])
			if len(first) > len(whole) {
				t.Fatalf("%q has %d pieces, its first %d bytes %d", text, len(whole), i, len(first))
			}
			samePieces(t, text[:i], first, whole[:len(first)])
		}
	})
}

// P10
func TestP10WhatIsHeld(t *testing.T) {
	t.Parallel()
	okTexts(func(text string) {
		if held := text[len(text)-impl.TextHeld(text):]; held != "" {
			if held[0] != '@' || strings.Count(held, "@") != 1 || !formBegins(held) {
				t.Fatalf("of %q %q is held", text, held)
			}
		}
		for _, letter := range []string{"a", "m", "z"} {
			if n := impl.TextHeld(text + letter); n != 0 {
				t.Fatalf("of %q %d bytes are held", text+letter, n)
			}
		}
	})
	for _, e := range anyEnds() {
		whole := name(e)
		for i := 1; i < len(whole); i++ {
			if n := impl.TextHeld(whole[:i]); n != i {
				t.Errorf("of %q %d bytes are held", whole[:i], n)
			}
		}
		if len(impl.TextNames(whole[:len(whole)-1]+"a;")) != 0 {
			t.Errorf("%q with a letter in it names somebody", whole)
		}
	}
}

// formBegins says whether some bytes more make it what is of a name's form.
func formBegins(held string) bool {
	for _, more := range []string{"1:1;", ":1;", "1;", ";"} {
		if wholeForm.MatchString(held + more) {
			return true
		}
	}
	return false
}

// P11
func TestP11HeldOfHeld(t *testing.T) {
	t.Parallel()
	okTexts(func(text string) {
		n := impl.TextHeld(text)
		rest, held := text[:len(text)-n], text[len(text)-n:]
		if impl.TextHeld(held) != n {
			t.Fatalf("of %q %d bytes are held, but of %q %d", text, n, held, impl.TextHeld(held))
		}
		if n == 0 {
			return
		}
		whole, first := impl.TextPieces(text), impl.TextPieces(rest)
		alone := slices.Repeat([]impl.Piece{{Size: 1}}, impl.TextHeld(rest))
		samePieces(t, text, whole, slices.Concat(first, alone))
	})
}

// P12
func TestP12Names(t *testing.T) {
	t.Parallel()
	okTexts(func(text string) {
		if got, want := impl.TextNames(text), namesOf(impl.TextPieces(text)); !slices.Equal(got, want) {
			t.Fatalf("TextNames(%q) is %v, pieces name %v", text, got, want)
		}
	})
	for _, text := range fewTexts() {
		names := impl.TextNames(text)
		for _, e := range anyEnds() {
			more := text + name(e)
			if len(more) > 40 {
				continue
			}
			if got, want := impl.TextNames(more), append(slices.Clone(names), e); !slices.Equal(got, want) {
				t.Fatalf("TextNames(%q) is %v, want %v", more, got, want)
			}
		}
	}
}

// P13
func TestP13NameBetween(t *testing.T) {
	t.Parallel()
	for _, text := range fewTexts() {
		pieces := impl.TextPieces(text)
		at := 0
		for i, p := range pieces {
			at += p.Size
			for _, e := range anyEnds() {
				more := text[:at] + name(e) + text[at:]
				if len(more) > 40 {
					continue
				}
				samePieces(t, more, impl.TextPieces(more), slices.Insert(slices.Clone(pieces), i+1, pieceOf(e)))
			}
		}
	}
}

// P14
func TestP14BothTogether(t *testing.T) {
	t.Parallel()
	seconds := append([]string{"", strings.Repeat("@4:4;", 7), strings.Repeat("a", 30) + "@9:1"}, fragments...)
	for _, a := range fewTexts() {
		if impl.TextHeld(a) != 0 {
			continue
		}
		first := impl.TextPieces(a)
		for _, b := range seconds {
			if len(a+b) <= 40 {
				samePieces(t, a+b, impl.TextPieces(a+b), slices.Concat(first, impl.TextPieces(b)))
			}
		}
	}
}

// P15
func TestP15Sizes(t *testing.T) {
	t.Parallel()
	okTexts(func(text string) {
		for _, p := range impl.TextPieces(text) {
			want := 1
			if p.Named {
				want = 5
				if p.End.Addr == 9 {
					want = 6
				}
			}
			if p.Size != want {
				t.Fatalf("%q: %v, want %d bytes", text, p, want)
			}
		}
	})
	for _, e := range anyEnds() {
		samePieces(t, name(e), impl.TextPieces(name(e)), []impl.Piece{pieceOf(e)})
	}
}

// P16
func TestP16HeldGrows(t *testing.T) {
	t.Parallel()
	okTexts(func(text string) {
		if text == "" {
			return
		}
		ahead, now := impl.TextHeld(text[:len(text)-1]), impl.TextHeld(text)
		if now > ahead+1 {
			t.Fatalf("of %q %d bytes are held, one byte earlier %d", text, now, ahead)
		}
		if now > 1 && ahead != now-1 {
			t.Fatalf("of %q %d bytes are held, one byte earlier %d", text, now, ahead)
		}
		if now == 1 && text[len(text)-1] != '@' {
			t.Fatalf("of %q the last byte is held", text)
		}
	})
}

// P17
func TestP17NamesAlone(t *testing.T) {
	t.Parallel()
	ends := anyEnds()
	for first := range ends {
		for step := 1; step < len(ends); step++ {
			text := ""
			var want []impl.End
			for i := first; ; i += step {
				e := ends[i%len(ends)]
				if len(text+name(e)) > 40 {
					break
				}
				text += name(e)
				want = append(want, e)
				if !impl.TextOk(text) || impl.TextHeld(text) != 0 || !slices.Equal(impl.TextNames(text), want) || len(impl.TextPieces(text)) != len(want) {
					t.Fatalf("%q: ok is %v, held %d, names %v, want %v", text, impl.TextOk(text), impl.TextHeld(text), impl.TextNames(text), want)
				}
			}
		}
	}
	if text := strings.Repeat("@3:9;", 8); len(impl.TextNames(text)) != 8 {
		t.Errorf("%q: names are %v", text, impl.TextNames(text))
	}
	if text := strings.Repeat("@9:17;", 6); len(impl.TextNames(text)) != 6 {
		t.Errorf("%q: names are %v", text, impl.TextNames(text))
	}
}
