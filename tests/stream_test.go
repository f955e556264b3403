package tests

import (
	"fmt"
	"math"
	"slices"
	"strings"
	"testing"

	"loop.example/ostiary/impl"
)

// What the document says of streams, written a second time, by other means than the program's: sums over lists, and each place tried.

func wantStreamOk(s impl.Stream) bool {
	sizes := func(list []impl.Piece) (all []int) {
		for _, p := range list {
			all = append(all, p.Size)
		}
		return all
	}
	var parts []int
	for _, p := range s.Parts {
		if len(p.Text) == 0 || len(p.Text) > 6 || !okText.MatchString(p.Text) {
			return false
		}
		parts = append(parts, p.Size)
	}
	return okText.MatchString(s.In) && slices.Equal(parts, sizes(wantPieces(s.In)))
}

// sums is how many bytes the first parts are, of those that came, and of those that went on: of none, of one, and so on.
func sums(s impl.Stream) (in, out []int) {
	in, out = []int{0}, []int{0}
	for i, p := range s.Parts {
		in, out = append(in, in[i]+p.Size), append(out, out[i]+len(p.Text))
	}
	return in, out
}

// wantAcross is the sum there of the most parts whose sum here is no more than that.
func wantAcross(bytes int, here, there []int) int {
	for k := len(here) - 1; ; k-- {
		if here[k] <= bytes {
			return there[k]
		}
	}
}

func wantFor(s impl.Stream, in int) int {
	a, b := sums(s)
	return wantAcross(in, a, b)
}

func wantBack(s impl.Stream, out int) int {
	a, b := sums(s)
	return wantAcross(out, b, a)
}

func textOf(parts []impl.Part) string {
	all := ""
	for _, p := range parts {
		all += p.Text
	}
	return all
}

// wantPut is StreamPut of what is ok, from a place on from 0 to 40.
func wantPut(t *testing.T, m []impl.Pair, s impl.Stream, at int, text string, out bool) ([]impl.Pair, impl.Stream, bool) {
	t.Helper()
	if at > len(s.In) || at+len(text) > 40 {
		return m, s, false
	}
	then := impl.Stream{In: s.In, Parts: slices.Clone(s.Parts)}
	for i := range len(text) {
		if at+i >= len(s.In) {
			then.In += text[i : i+1]
		}
	}
	begin := 0
	for i, p := range wantPieces(then.In) {
		written := then.In[begin : begin+p.Size]
		begin += p.Size
		if i < len(s.Parts) {
			continue
		}
		part := impl.Part{Size: p.Size, Text: written}
		if p.Named && out {
			m, part.Text = wantTextOut(t, m, written)
		} else if p.Named {
			part.Text = wantTextIn(t, m, written)
		}
		then.Parts = append(then.Parts, part)
	}
	return m, then, true
}

func equalStreams(a, b impl.Stream) bool {
	return a.In == b.In && slices.Equal(a.Parts, b.Parts)
}

func told(s impl.Stream) string {
	all := fmt.Sprintf("%.60q as", s.In)
	for i, p := range s.Parts {
		if i == 45 {
			return all + " .."
		}
		all += fmt.Sprintf(" %d:%.20q", p.Size, p.Text)
	}
	return all
}

// answer is what StreamPut tells.
type answer struct {
	m  []impl.Pair
	s  impl.Stream
	ok bool
}

func put(m []impl.Pair, s impl.Stream, at int, text string, out bool) answer {
	then, stream, ok := impl.StreamPut(m, s, at, text, out)
	return answer{then, stream, ok}
}

func (a answer) is(b answer) bool {
	return a.ok == b.ok && slices.Equal(a.m, b.m) && equalStreams(a.s, b.s)
}

func mustBe(t *testing.T, what string, got, want answer) {
	t.Helper()
	if !got.is(want) {
		t.Fatalf("%s: got %.300v, %s, %v; want %v, %s, %v", what, got.m, told(got.s), got.ok, want.m, told(want.s), want.ok)
	}
}

// mustPut writes out what was asked only where the answer is wrong: it is asked very often.
func mustPut(t *testing.T, m []impl.Pair, s impl.Stream, at int, text string, out bool, want answer) {
	t.Helper()
	if got := put(m, s, at, text, out); !got.is(want) {
		mustBe(t, fmt.Sprintf("StreamPut by %v of %s at %d, %.60q, %v", m[:min(len(m), 9)], told(s), at, text, out), got, want)
	}
}

// streamTexts is texts with names of each side, with what is nearly a name, and with what is held at their end, and long ones.
func streamTexts() []string {
	all := slices.Clone(fragments)
	for _, a := range []string{"@", "@1:1", "@9:1", "@9:10", "a"} {
		for _, b := range fragments {
			all = append(all, a+b)
		}
	}
	ends := insideEnds()
	names := strings.Repeat("@1:1;", 8)
	for i := range 4 {
		in, again, door, out := ends[i*5], ends[i*7+1], doorEnds()[i*2], outsideEnds()[i]
		all = append(all,
			name(in)+name(again)+name(in), "ab"+name(in)+"c"+name(door)+"@9", name(door)+name(out)+name(in)+"@1:1",
			"@"+name(in)+"@1"+name(in)+"@1:"+name(door)+"@1:", "@9:1"+name(door)+"@9:17"+name(in)+"@")
	}
	return append(all, "", names, names[:39], names[:36], names[:35]+"abcd@", strings.Repeat("@9:17;", 6)+"@9:1",
		"@1:1;@1:2;@1:3;@1:4;@1:5;@1:6;@1:7;@1:8;", strings.Repeat("a", 40), strings.Repeat("@", 40), strings.Repeat("a", 35)+"@9:12")
}

// streamMaps is maps of no port, of some, one in which one port is left, and one in which none is.
func streamMaps() [][]impl.Pair {
	ends := insideEnds()
	return [][]impl.Pair{nil, mapOf(ends[26], ends[0], ends[5]), mapOf(ends[19:26]...), mapOf(ends[10:18]...)}
}

// strange is a stream of a text whose parts went on in no way that the program would choose now, though in an ok one.
func strange(text string, first int) impl.Stream {
	ways := []string{"x", "@9:10;", "ab", "@", "@1:1;", "abc", ";", "abcd", "@3:9;", "123456"}
	s := impl.Stream{In: text}
	for i, p := range wantPieces(text) {
		s.Parts = append(s.Parts, impl.Part{Size: p.Size, Text: ways[(first+i)%len(ways)]})
	}
	return s
}

// streamCase is a map, and an ok stream that went on by it, or by another one.
type streamCase struct {
	m []impl.Pair
	s impl.Stream
}

// okStreams is streams of those texts: gone out, come in, and with strange parts.
func okStreams(t *testing.T) []streamCase {
	t.Helper()
	var all []streamCase
	for i, text := range streamTexts() {
		for j, m := range streamMaps() {
			then, s, _ := wantPut(t, m, impl.Stream{}, 0, text, true)
			all = append(all, streamCase{then, s})
			_, s, _ = wantPut(t, m, impl.Stream{}, 0, text, false)
			all = append(all, streamCase{m, s})
			all = append(all, streamCase{m, strange(text, i+j)})
		}
	}
	return all
}

// fewStreams is some of them, for what is tried many times of each.
func fewStreams(t *testing.T) []streamCase {
	t.Helper()
	var all []streamCase
	for _, text := range []string{"", "a", "@", "@1", "ab@1:", "@9:1", "x@9:10", "@1:1;", "@9:10;@4:4;", "@2:2;@3:3", "@1@1:1@", strings.Repeat("a", 39), strings.Repeat("@2:9;", 7) + "@9:1", strings.Repeat("@1:1;", 8)} {
		for j, m := range streamMaps() {
			then, s, _ := wantPut(t, m, impl.Stream{}, 0, text, j%2 == 0)
			all = append(all, streamCase{then, s}, streamCase{m, strange(text, j)})
		}
	}
	return all
}

// putTexts is what is put behind, or onto, a stream.
var putTexts = []string{"", "a", "@", ";", ":7;", "1:1;", "0;", "7", "@1:1;", "@3:8;@3:9;", "@9:10;@9:17;", "a@4:4;@1", "@2", "5;@9:11;b@1:", "@@1:2;;", strings.Repeat("@2:2;", 3) + "@"}

// eachPut tells each of some streams, each way, with each of some texts, from each place on.
func eachPut(t *testing.T, tell func(c streamCase, at int, text string, out bool)) {
	t.Helper()
	for _, c := range fewStreams(t) {
		for at := 0; at <= 40; at++ {
			for _, text := range putTexts {
				tell(c, at, text, true)
				tell(c, at, text, false)
			}
		}
	}
}

// wrongStreams is streams that are not ok, each in one way.
func wrongStreams() map[string]impl.Stream {
	part := func(text string) impl.Part { return impl.Part{Size: 1, Text: text} }
	letters := func(in string, parts int) impl.Stream {
		return impl.Stream{In: in, Parts: slices.Repeat([]impl.Part{part("a")}, parts)}
	}
	wrong := map[string]impl.Stream{
		"a part of nothing":          letters("", 1),
		"one part too many":          letters("aaa", 4),
		"far too many parts":         letters("aaa", 100000),
		"one part too few":           letters("aaa", 2),
		"no parts":                   letters("aaa", 0),
		"a part of what is held":     letters("aa@", 3),
		"parts of all that is held":  letters("@9:10", 5),
		"one part of what is held":   {In: "@9:10", Parts: []impl.Part{{Size: 5, Text: "@9:10"}}},
		"a name as bytes":            letters("@1:1;", 5),
		"bytes as a name":            {In: "@7:1;", Parts: []impl.Part{{Size: 5, Text: "@7:1;"}}},
		"two bytes in one part":      {In: "ab", Parts: []impl.Part{{Size: 2, Text: "ab"}}},
		"a part too large":           {In: "a", Parts: []impl.Part{{Size: 2, Text: "a"}}},
		"a part of no bytes":         {In: "a", Parts: []impl.Part{{Size: 0, Text: "a"}}},
		"a part of no bytes more":    {In: "a", Parts: []impl.Part{{Size: 1, Text: "a"}, {Size: 0, Text: "b"}}},
		"a part below 0":             {In: "a", Parts: []impl.Part{{Size: -1, Text: "a"}}},
		"a name one too small":       {In: "@9:10;", Parts: []impl.Part{{Size: 5, Text: "@1:1;"}}},
		"a name one too large":       {In: "@1:1;", Parts: []impl.Part{{Size: 6, Text: "@9:10;"}}},
		"sizes exchanged":            {In: "a@1:1;", Parts: []impl.Part{{Size: 5, Text: "@9:10;"}, {Size: 1, Text: "a"}}},
		"sizes that wrap round":      {In: "aa", Parts: []impl.Part{{Size: math.MaxInt, Text: "a"}, {Size: math.MinInt + 3, Text: "a"}}},
		"too great a size":           {In: "a", Parts: []impl.Part{{Size: 1<<32 + 1, Text: "a"}}},
		"In too long":                letters(strings.Repeat("a", 41), 41),
		"In too long, no parts":      letters(strings.Repeat("a", 41), 0),
		"In too long, parts of 40":   letters(strings.Repeat("a", 41), 40),
		"In too long by what's held": letters(strings.Repeat("a", 40)+"@", 40),
		"In far too long":            letters(strings.Repeat("a", 100000), 100000),
	}
	for i, text := range wrongTexts() {
		if len(text) <= 40 {
			wrong[fmt.Sprintf("In is %q", text)] = letters(text, len(text))
			wrong[fmt.Sprintf("In is %q, no parts", text)] = letters(text, 0)
		}
		s := letters("aaaa", 4)
		s.Parts[i%4].Text = text
		wrong[fmt.Sprintf("Text %d is %.60q", i, text)] = s
	}
	for at := range 3 {
		for what, text := range map[string]string{"empty": "", "of 7 bytes": "abcdefg", "of 7 bytes that name": "@9:10;a", "of 40 bytes": strings.Repeat("a", 40), "of 41": strings.Repeat("a", 41), "not ok": "A", "a blank": " ", "of 6 bytes, not ok": "@9:10 ", "far too long": strings.Repeat("a", 100000)} {
			s := impl.Stream{In: "a@1:1;b@1", Parts: []impl.Part{part("a"), {Size: 5, Text: "@9:10;"}, part("b")}}
			s.Parts[at].Text = text
			wrong[fmt.Sprintf("Text %d is %s", at, what)] = s
		}
	}
	return wrong
}

func TestStreamPutEdges(t *testing.T) {
	t.Parallel()
	ends := insideEnds()
	e17 := impl.End{Addr: 1, Port: 7}
	of := func(in string, texts ...string) impl.Stream {
		s := impl.Stream{In: in}
		for i, p := range wantPieces(in) {
			s.Parts = append(s.Parts, impl.Part{Size: p.Size, Text: texts[i]})
		}
		return s
	}
	seven, eight := mapOf(ends[:7]...), mapOf(ends[:8]...)
	half := of("ab@1:", "a", "b")
	whole := of("ab@1:7;c", "a", "b", "@9:10;", "c")
	door := of("x@9:1", "x")
	long := of(strings.Repeat("a", 39), slices.Repeat([]string{"a"}, 39)...)
	full := of(strings.Repeat("a", 40), slices.Repeat([]string{"a"}, 40)...)
	for _, c := range []struct {
		m    []impl.Pair
		s    impl.Stream
		at   int
		text string
		out  bool
		want answer
	}{
		{nil, impl.Stream{}, 0, "", true, answer{nil, impl.Stream{}, true}},
		{nil, impl.Stream{}, 1, "", true, answer{nil, impl.Stream{}, false}},
		{seven, impl.Stream{}, 1, "a", false, answer{seven, impl.Stream{}, false}},
		{nil, impl.Stream{}, 0, "@", true, answer{nil, of("@"), true}},
		{nil, impl.Stream{}, 0, "ab@1:", true, answer{nil, half, true}},
		// What is held becomes a name, or not.
		{nil, half, 5, "7;c", true, answer{mapOf(e17), whole, true}},
		{nil, half, 4, ":7;c", true, answer{mapOf(e17), whole, true}},
		{nil, half, 0, "ab@1:7;c", true, answer{mapOf(e17), whole, true}},
		{nil, half, 3, "1:7", true, answer{nil, of("ab@1:7", "a", "b"), true}},
		{nil, half, 5, "c", true, answer{nil, of("ab@1:c", "a", "b", "@", "1", ":", "c"), true}},
		{nil, half, 5, "@", true, answer{nil, of("ab@1:@", "a", "b", "@", "1", ":"), true}},
		{nil, half, 5, "0;", true, answer{nil, of("ab@1:0;", "a", "b", "@", "1", ":", "0", ";"), true}},
		{nil, half, 5, "@1:7;", true, answer{mapOf(e17), of("ab@1:@1:7;", "a", "b", "@", "1", ":", "@9:10;"), true}},
		{nil, half, 5, "7;@1:7;@1", true, answer{mapOf(e17), of("ab@1:7;@1:7;@1", "a", "b", "@9:10;", "@9:10;"), true}},
		{seven, door, 5, "1;@9:17;", false, answer{seven, of("x@9:11;@9:17;", "x", "@1:2;", "@9:17;"), true}},
		{seven, door, 5, ";", false, answer{seven, of("x@9:1;", "x", "@", "9", ":", "1", ";"), true}},
		{seven, door, 5, "1;", true, answer{seven, of("x@9:11;", "x", "@9:11;"), true}},
		{seven, half, 5, "2;", false, answer{seven, of("ab@1:2;", "a", "b", "@1:2;"), true}},
		// What came already is not looked at.
		{nil, half, 0, "ab@1:", true, answer{nil, half, true}},
		{nil, half, 0, "zzzzz", true, answer{nil, half, true}},
		{nil, half, 0, "zzzzz7;c", true, answer{mapOf(e17), whole, true}},
		{nil, half, 3, "@9", true, answer{nil, half, true}},
		{mapOf(e17), whole, 3, "1:7;", true, answer{mapOf(e17), whole, true}},
		{nil, whole, 2, "@1:7;", true, answer{nil, whole, true}},
		{nil, whole, 2, "@2:2;", true, answer{nil, whole, true}},
		{nil, whole, 4, "@2:2", true, answer{nil, whole, true}},
		{nil, whole, 4, "@2:2;", true, answer{nil, of("ab@1:7;c;", "a", "b", "@9:10;", "c", ";"), true}},
		{nil, whole, 8, "@2:2;", true, answer{mapOf(impl.End{Addr: 2, Port: 2}), of("ab@1:7;c@2:2;", "a", "b", "@9:10;", "c", "@9:10;"), true}},
		{nil, whole, 8, "", true, answer{nil, whole, true}},
		{nil, whole, 9, "", true, answer{nil, whole, false}},
		{nil, whole, 9, "x", false, answer{nil, whole, false}},
		{nil, whole, 40, "", true, answer{nil, whole, false}},
		// Ports that are left.
		{seven, half, 5, "8;@1:9;", true, answer{eight, of("ab@1:8;@1:9;", "a", "b", "@9:17;", "@1:9;"), true}},
		{eight, half, 5, "9;@1:8;", true, answer{eight, of("ab@1:9;@1:8;", "a", "b", "@1:9;", "@9:17;"), true}},
		// Room.
		{nil, long, 39, "a", true, answer{nil, full, true}},
		{nil, long, 39, "@", true, answer{nil, of(long.In+"@", slices.Repeat([]string{"a"}, 39)...), true}},
		{nil, long, 39, "aa", true, answer{nil, long, false}},
		{nil, long, 38, "aa", true, answer{nil, full, true}},
		{nil, long, 38, "aaa", false, answer{nil, long, false}},
		{nil, full, 40, "", true, answer{nil, full, true}},
		{nil, full, 40, "a", true, answer{nil, full, false}},
		{nil, full, 39, "a", true, answer{nil, full, true}},
		{nil, full, 39, "aa", true, answer{nil, full, false}},
		{nil, full, 0, full.In, false, answer{nil, full, true}},
		{nil, full, 1, full.In, false, answer{nil, full, false}},
		{nil, half, 1, full.In, true, answer{nil, half, false}},
		{nil, half, 6, full.In, true, answer{nil, half, false}},
		{seven, impl.Stream{}, 0, full.In, true, answer{seven, full, true}},
	} {
		mustPut(t, c.m, c.s, c.at, c.text, c.out, c.want)
	}
}

func TestStreamPlacesEdges(t *testing.T) {
	t.Parallel()
	_, s, _ := impl.StreamPut(nil, impl.Stream{}, 0, "ab@1:7;c@9", true)
	if !impl.StreamOk(s) || impl.StreamOut(s) != "ab@9:10;c" {
		t.Fatalf("%s: StreamOut is %q", told(s), impl.StreamOut(s))
	}
	for in, want := range []int{0, 1, 2, 2, 2, 2, 2, 8, 9, 9, 9} {
		if got := impl.StreamFor(s, in); got != want {
			t.Errorf("StreamFor of %d is %d, want %d", in, got, want)
		}
	}
	for out, want := range []int{0, 1, 2, 2, 2, 2, 2, 2, 7, 8} {
		if got := impl.StreamBack(s, out); got != want {
			t.Errorf("StreamBack of %d is %d, want %d", out, got, want)
		}
	}
	if a, b := impl.StreamFor(s, 11), impl.StreamBack(s, 10); a != -1 || b != -1 {
		t.Errorf("of more than there is StreamFor is %d, StreamBack %d", a, b)
	}
	none := impl.Stream{}
	if !impl.StreamOk(none) || impl.StreamOut(none) != "" || impl.StreamFor(none, 0) != 0 || impl.StreamBack(none, 0) != 0 || impl.StreamFor(none, 1) != -1 || impl.StreamBack(none, 1) != -1 {
		t.Error("the empty stream")
	}
	held := impl.Stream{In: "@1:1"}
	if !impl.StreamOk(held) || impl.StreamOut(held) != "" || impl.StreamFor(held, 4) != 0 || impl.StreamFor(held, 5) != -1 || impl.StreamBack(held, 0) != 0 || impl.StreamBack(held, 1) != -1 {
		t.Error("a stream of which all is held")
	}
}

// More went on than a text may be long.
func TestStreamGoesOnLonger(t *testing.T) {
	t.Parallel()
	text := strings.Repeat("@1:1;", 8)
	m, s, ok := impl.StreamPut(nil, impl.Stream{}, 0, text, true)
	if !ok || len(m) != 1 || !impl.StreamOk(s) || impl.StreamOut(s) != strings.Repeat("@9:10;", 8) {
		t.Fatalf("%s, %v", told(s), ok)
	}
	if a, b := impl.StreamFor(s, 40), impl.StreamBack(s, 48); a != 48 || b != 40 {
		t.Errorf("StreamFor is %d, StreamBack %d", a, b)
	}
	if a, b := impl.StreamBack(s, 47), impl.StreamBack(s, 49); a != 35 || b != -1 {
		t.Errorf("StreamBack is %d and %d", a, b)
	}
	s = impl.Stream{In: strings.Repeat("a", 40), Parts: slices.Repeat([]impl.Part{{Size: 1, Text: "@9:10;"}}, 40)}
	if a, b := impl.StreamFor(s, 40), impl.StreamBack(s, 239); !impl.StreamOk(s) || a != 240 || b != 39 || len(impl.StreamOut(s)) != 240 {
		t.Errorf("StreamFor is %d, StreamBack %d", a, b)
	}
}

func TestStreamsAsWritten(t *testing.T) {
	t.Parallel()
	for _, c := range okStreams(t) {
		if !wantStreamOk(c.s) || !impl.StreamOk(c.s) {
			t.Fatalf("%s: StreamOk is %v", told(c.s), impl.StreamOk(c.s))
		}
		out := textOf(c.s.Parts)
		if got := impl.StreamOut(c.s); got != out {
			t.Fatalf("%s: StreamOut is %q", told(c.s), got)
		}
		for in := range len(c.s.In) + 1 {
			if got, want := impl.StreamFor(c.s, in), wantFor(c.s, in); got != want {
				t.Fatalf("%s: StreamFor of %d is %d, want %d", told(c.s), in, got, want)
			}
		}
		for i := range len(out) + 1 {
			if got, want := impl.StreamBack(c.s, i), wantBack(c.s, i); got != want {
				t.Fatalf("%s: StreamBack of %d is %d, want %d", told(c.s), i, got, want)
			}
		}
		mustHaveNoPlace(t, c.s, []int{-1, -2, -40, -1 << 32, math.MinInt}, []int{1, 2, 40, 256, 1 << 32, math.MaxInt - 300})
	}
}

// mustHaveNoPlace asks for -1 of places below 0, and of so many more than came, or went on.
func mustHaveNoPlace(t *testing.T, s impl.Stream, below, more []int) {
	t.Helper()
	for _, n := range below {
		if a, b := impl.StreamFor(s, n), impl.StreamBack(s, n); a != -1 || b != -1 {
			t.Fatalf("%s: of %d StreamFor is %d, StreamBack %d", told(s), n, a, b)
		}
	}
	for _, n := range more {
		if a, b := impl.StreamFor(s, len(s.In)+n), impl.StreamBack(s, len(textOf(s.Parts))+n); a != -1 || b != -1 {
			t.Fatalf("%s: of %d more StreamFor is %d, StreamBack %d", told(s), n, a, b)
		}
	}
}

func TestStreamPutAsWritten(t *testing.T) {
	t.Parallel()
	eachPut(t, func(c streamCase, at int, text string, out bool) {
		m, s, ok := wantPut(t, c.m, c.s, at, text, out)
		mustPut(t, c.m, c.s, at, text, out, answer{m, s, ok})
	})
}

// All short texts of those bytes that matter, byte by byte, and in two.
func TestShortStreamsAsWritten(t *testing.T) {
	t.Parallel()
	m := mapOf(insideEnds()[20:]...)
	allTexts("@19:;a", 4, func(text string) {
		for _, out := range []bool{true, false} {
			for _, begin := range []string{"", "@1", "@9:1"} {
				start := put(m, impl.Stream{}, 0, begin, out)
				then, s, ok := wantPut(t, m, impl.Stream{}, 0, begin+text, out)
				for cut := range len(text) + 1 {
					first := put(start.m, start.s, len(begin), text[:cut], out)
					mustPut(t, first.m, first.s, len(begin)+cut, text[cut:], out, answer{then, s, ok})
				}
			}
		}
	})
}

func TestStreamsThatAreNotOk(t *testing.T) {
	t.Parallel()
	for what, s := range wrongStreams() {
		if wantStreamOk(s) || impl.StreamOk(s) {
			t.Errorf("%s: StreamOk is %v", what, impl.StreamOk(s))
		}
		if out := impl.StreamOut(s); out != "" {
			t.Errorf("%s: StreamOut is %q", what, out)
		}
		for _, n := range []int{math.MinInt, -1, 0, 1, 2, 3, 5, 6, 40, 41, math.MaxInt} {
			if a, b := impl.StreamFor(s, n), impl.StreamBack(s, n); a != -1 || b != -1 {
				t.Errorf("%s: of %d StreamFor is %d, StreamBack %d", what, n, a, b)
			}
		}
		for _, m := range streamMaps() {
			for _, at := range []int{-1, 0, 1, len(s.In), len(s.In) + 1, 40, 41} {
				for _, text := range []string{"", "a", "@1:1;"} {
					mustPut(t, m, s, at, text, true, answer{})
					mustPut(t, m, s, at, text, false, answer{})
				}
			}
		}
	}
}

func TestStreamPutOfWrongThings(t *testing.T) {
	t.Parallel()
	wrongPlaces := []int{math.MinInt, math.MinInt + 5, -1 << 32, -41, -40, -2, -1, 41, 42, 80, 1 << 32, math.MaxInt - 5, math.MaxInt}
	for _, c := range fewStreams(t) {
		for _, out := range []bool{true, false} {
			for _, at := range wrongPlaces {
				for _, text := range putTexts {
					mustPut(t, c.m, c.s, at, text, out, answer{})
				}
			}
			for _, at := range []int{0, len(c.s.In), 40} {
				for _, text := range wrongTexts() {
					mustPut(t, c.m, c.s, at, text, out, answer{})
				}
				for _, m := range wrongMaps() {
					mustPut(t, m, c.s, at, "", out, answer{})
					mustPut(t, m, c.s, at, "a", out, answer{})
					mustPut(t, m, c.s, at, "@1:1;@9:10;", out, answer{})
				}
			}
		}
	}
}

// The empty list and the nil list are the same value.
func TestStreamEmptyAndNil(t *testing.T) {
	t.Parallel()
	for _, in := range []string{"", "@", "@9:10", "a"} {
		none, empty := impl.Stream{In: in}, impl.Stream{In: in, Parts: make([]impl.Part, 0, 4)}
		if impl.StreamOk(none) != impl.StreamOk(empty) || impl.StreamOk(none) != (in != "a") {
			t.Errorf("of %q without parts StreamOk is %v and %v", in, impl.StreamOk(none), impl.StreamOk(empty))
		}
		for n := -1; n < 8; n++ {
			if impl.StreamFor(none, n) != impl.StreamFor(empty, n) || impl.StreamBack(none, n) != impl.StreamBack(empty, n) {
				t.Errorf("of %q without parts places are not the same", in)
			}
			for _, text := range putTexts {
				mustPut(t, []impl.Pair{}, empty, n, text, true, put(nil, none, n, text, true))
				mustPut(t, []impl.Pair{}, empty, n, text, false, put(nil, none, n, text, false))
			}
		}
	}
}

func scribblePairs(list []impl.Pair) {
	for i := range list[:cap(list)] {
		list[:cap(list)][i] = impl.Pair{Port: -1}
	}
}

func scribbleParts(list []impl.Part) {
	for i := range list[:cap(list)] {
		list[:cap(list)][i] = impl.Part{Size: -1}
	}
}

// Nothing is written into an argument or behind its end, and no answer shares memory with it, or with another answer.
func TestStreamAnswersAreNew(t *testing.T) {
	t.Parallel()
	pairMark, partMark := impl.Pair{Port: 77}, impl.Part{Size: 77, Text: "mark"}
	for _, c := range fewStreams(t) {
		pairs := append(slices.Clone(c.m), slices.Repeat([]impl.Pair{pairMark}, 12)...)
		parts := append(slices.Clone(c.s.Parts), slices.Repeat([]impl.Part{partMark}, 50)...)
		pairsBefore, partsBefore := slices.Clone(pairs), slices.Clone(parts)
		m, s := pairs[:len(c.m)], impl.Stream{In: c.s.In, Parts: parts[:len(c.s.Parts)]}
		for _, at := range []int{-1, 0, len(s.In) / 2, len(s.In), len(s.In) + 1} {
			for _, text := range putTexts {
				for _, out := range []bool{true, false} {
					first, second := put(m, s, at, text, out), put(m, s, at, text, out)
					want := answer{slices.Clone(second.m), impl.Stream{In: second.s.In, Parts: slices.Clone(second.s.Parts)}, second.ok}
					scribblePairs(first.m)
					scribbleParts(first.s.Parts)
					mustBe(t, "two answers share memory", second, want)
				}
			}
		}
		impl.StreamOk(s)
		impl.StreamOut(s)
		impl.StreamFor(s, len(s.In))
		impl.StreamBack(s, 1)
		if !slices.Equal(pairs, pairsBefore) || !slices.Equal(parts, partsBefore) {
			t.Fatalf("%s: the argument is changed to %v, %v", told(s), pairs, parts)
		}
	}
}

// P32
func TestP32WhatCameStays(t *testing.T) {
	t.Parallel()
	eachPut(t, func(c streamCase, at int, text string, out bool) {
		then := put(c.m, c.s, at, text, out)
		if !impl.StreamOk(then.s) || !strings.HasPrefix(then.s.In, c.s.In) || !strings.HasPrefix(impl.StreamOut(then.s), impl.StreamOut(c.s)) {
			t.Fatalf("%s, %q at %d: then %s", told(c.s), text, at, told(then.s))
		}
		if n := len(c.s.Parts); len(then.s.Parts) < n || !slices.Equal(then.s.Parts[:n], c.s.Parts) {
			t.Fatalf("%s, %q at %d: then %s", told(c.s), text, at, told(then.s))
		}
		if at > len(c.s.In) || at+len(text) > 40 {
			return
		}
		if !then.ok || len(then.s.In) != max(len(c.s.In), at+len(text)) {
			t.Fatalf("%s, %q at %d: then %s, %v", told(c.s), text, at, told(then.s), then.ok)
		}
		for i := range len(text) {
			if there := then.s.In[at+i]; at+i < len(c.s.In) && there != c.s.In[at+i] || at+i >= len(c.s.In) && there != text[i] {
				t.Fatalf("%s, %q at %d: byte %d is not there: %s", told(c.s), text, at, i, told(then.s))
			}
		}
	})
}

// P33
func TestP33OnceMore(t *testing.T) {
	t.Parallel()
	eachPut(t, func(c streamCase, at int, text string, out bool) {
		then := put(c.m, c.s, at, text, out)
		if !then.ok {
			return
		}
		for i := range len(text) + 1 {
			for _, j := range []int{i, i + 1, len(text) - 1, len(text)} {
				if i <= j && j <= len(text) {
					mustPut(t, then.m, then.s, at+i, text[i:j], out, then)
				}
			}
		}
	})
}

// P34
func TestP34ByteByByte(t *testing.T) {
	t.Parallel()
	eachPut(t, func(c streamCase, at int, text string, out bool) {
		whole := put(c.m, c.s, at, text, out)
		if !whole.ok {
			return
		}
		for cut := range len(text) + 1 {
			first := put(c.m, c.s, at, text[:cut], out)
			if !first.ok {
				t.Fatalf("%s: the first %d bytes of %q at %d: false", told(c.s), cut, text, at)
			}
			mustPut(t, first.m, first.s, at+cut, text[cut:], out, whole)
		}
	})
	for _, text := range streamTexts() {
		for _, m := range streamMaps() {
			for _, out := range []bool{true, false} {
				then := answer{m: m, ok: true}
				for i := range len(text) {
					then = put(then.m, then.s, i, text[i:i+1], out)
				}
				mustPut(t, m, impl.Stream{}, 0, text, out, then)
			}
		}
	}
}

// P35
func TestP35FromNothing(t *testing.T) {
	t.Parallel()
	for _, text := range append(streamTexts(), mapTexts()...) {
		for _, m := range streamMaps() {
			then, s, ok := impl.StreamPut(m, impl.Stream{}, 0, text, true)
			wantM, want := impl.MapTextOut(m, text)
			if !ok || s.In != text || impl.StreamOut(s) != want {
				t.Fatalf("by %v %q is %s, %v; MapTextOut is %q", m, text, told(s), ok, want)
			}
			sameMap(t, text, then, wantM)
			then, s, ok = impl.StreamPut(m, impl.Stream{}, 0, text, false)
			if want := impl.MapTextIn(m, text); !ok || s.In != text || impl.StreamOut(s) != want {
				t.Fatalf("by %v %q is %s, %v; MapTextIn is %q", m, text, told(s), ok, want)
			}
			sameMap(t, text, then, m)
		}
	}
}

// P36
func TestP36ForAscends(t *testing.T) {
	t.Parallel()
	for _, c := range okStreams(t) {
		all := len(impl.StreamOut(c.s))
		before := 0
		for in := range len(c.s.In) + 1 {
			n := impl.StreamFor(c.s, in)
			if n < before || n > all || in == 0 && n != 0 {
				t.Fatalf("%s: StreamFor of %d is %d, before %d, of %d", told(c.s), in, n, before, all)
			}
			before = n
		}
		if before != all || impl.StreamFor(c.s, len(c.s.In)-wantHeld(c.s.In)) != all {
			t.Fatalf("%s: StreamFor of all is %d, of %d", told(c.s), before, all)
		}
	}
}

// P37
func TestP37NotTooEarly(t *testing.T) {
	t.Parallel()
	for _, c := range okStreams(t) {
		before := 0
		for out := range len(impl.StreamOut(c.s)) + 1 {
			n := impl.StreamBack(c.s, out)
			if n < before || out == 0 && n != 0 {
				t.Fatalf("%s: StreamBack of %d is %d, before %d", told(c.s), out, n, before)
			}
			if there := impl.StreamFor(c.s, n); there < 0 || there > out {
				t.Fatalf("%s: StreamBack of %d is %d, StreamFor of that %d", told(c.s), out, n, there)
			}
			before = n
		}
		if want := len(c.s.In) - impl.TextHeld(c.s.In); before != want {
			t.Fatalf("%s: StreamBack of all is %d, want %d", told(c.s), before, want)
		}
	}
}

// P38
func TestP38ForAndBack(t *testing.T) {
	t.Parallel()
	for _, c := range okStreams(t) {
		ends, _ := sums(c.s)
		for in := range len(c.s.In) + 1 {
			n := impl.StreamBack(c.s, impl.StreamFor(c.s, in))
			if n > in || n < 0 {
				t.Fatalf("%s: of %d back is %d", told(c.s), in, n)
			}
			if k := slices.Index(ends, n); k < 0 || k+1 < len(ends) && in >= ends[k+1] || k+1 == len(ends) && in-n > wantHeld(c.s.In) {
				t.Fatalf("%s: of %d back is %d, less by a whole piece", told(c.s), in, n)
			}
		}
	}
}

// P39
func TestP39PartsArePieces(t *testing.T) {
	t.Parallel()
	for _, c := range okStreams(t) {
		pieces := impl.TextPieces(c.s.In)
		if !impl.StreamOk(c.s) || len(c.s.Parts) != len(pieces) {
			t.Fatalf("%s: StreamOk is %v", told(c.s), impl.StreamOk(c.s))
		}
		for i, p := range pieces {
			for _, size := range []int{0, p.Size - 1, p.Size, p.Size + 1, 5, 6} {
				other := impl.Stream{In: c.s.In, Parts: slices.Clone(c.s.Parts)}
				other.Parts[i].Size = size
				if impl.StreamOk(other) != (size == p.Size) {
					t.Fatalf("%s: StreamOk is %v", told(other), impl.StreamOk(other))
				}
			}
			if impl.StreamOk(impl.Stream{In: c.s.In, Parts: slices.Delete(slices.Clone(c.s.Parts), i, i+1)}) {
				t.Fatalf("%s: ok without part %d", told(c.s), i)
			}
		}
		if impl.StreamOk(impl.Stream{In: c.s.In, Parts: append(slices.Clone(c.s.Parts), impl.Part{Size: 1, Text: "a"})}) {
			t.Fatalf("%s: ok with one part more", told(c.s))
		}
	}
}

// P40
func TestP40OutOfParts(t *testing.T) {
	t.Parallel()
	for _, c := range okStreams(t) {
		out := impl.StreamOut(c.s)
		if out != textOf(c.s.Parts) {
			t.Fatalf("%s: StreamOut is %q", told(c.s), out)
		}
		for n := range len(c.s.In) + 1 {
			fewer := impl.Stream{In: c.s.In[:n], Parts: c.s.Parts[:len(wantPieces(c.s.In[:n]))]}
			if got := impl.StreamOut(fewer); got != textOf(fewer.Parts) || !strings.HasPrefix(out, got) {
				t.Fatalf("%s: StreamOut is %q, of the first %d bytes %q", told(c.s), out, n, got)
			}
		}
	}
}

// P41
func TestP41NoSuchPlace(t *testing.T) {
	t.Parallel()
	far, tooLong := 0, 0
	eachPut(t, func(c streamCase, at int, text string, out bool) {
		behind, over := at > len(c.s.In), at+len(text) > 40
		if behind || over {
			mustPut(t, c.m, c.s, at, text, out, answer{c.m, c.s, false})
		} else if !put(c.m, c.s, at, text, out).ok {
			t.Fatalf("%s, %q at %d: false", told(c.s), text, at)
		}
		if behind && !over {
			far++
		} else if over && !behind {
			tooLong++
		}
	})
	if far == 0 || tooLong == 0 {
		t.Errorf("tried %d places behind, and %d texts too long", far, tooLong)
	}
}

// P42
func TestP42TheMap(t *testing.T) {
	t.Parallel()
	given := 0
	eachPut(t, func(c streamCase, at int, text string, out bool) {
		then := put(c.m, c.s, at, text, out)
		if !impl.MapOk(then.m) || len(then.m) < len(c.m) || len(then.m) > len(c.m) && !out {
			t.Fatalf("%s, %q at %d, %v: the map was %v, is %v", told(c.s), text, at, out, c.m, then.m)
		}
		sameMap(t, "the first ones", then.m[:len(c.m)], c.m)
		given += len(then.m) - len(c.m)
	})
	if given == 0 {
		t.Error("no port was given")
	}
}

// P43
func TestP43OneLetter(t *testing.T) {
	t.Parallel()
	for _, c := range okStreams(t) {
		if len(c.s.In) == 40 {
			continue
		}
		for _, letter := range []string{"a", "z"} {
			for _, out := range []bool{true, false} {
				then := put(c.m, c.s, len(c.s.In), letter, out)
				if n := impl.StreamBack(then.s, len(impl.StreamOut(then.s))); !then.ok || then.s.In != c.s.In+letter || n != len(c.s.In)+1 {
					t.Fatalf("%s with %q: %s, %v, StreamBack of all is %d", told(c.s), letter, told(then.s), then.ok, n)
				}
				// A letter makes no name of what was held: it goes on as it is.
				held := c.s.In[len(c.s.In)-wantHeld(c.s.In):]
				if got, want := impl.StreamOut(then.s), impl.StreamOut(c.s)+held+letter; got != want {
					t.Fatalf("%s with %q: StreamOut is %q, want %q", told(c.s), letter, got, want)
				}
			}
		}
	}
}

// P44
func TestP44WholePieces(t *testing.T) {
	t.Parallel()
	for _, c := range okStreams(t) {
		in, out := sums(c.s)
		for k := range in {
			if got := impl.StreamFor(c.s, in[k]); got != out[k] {
				t.Fatalf("%s: StreamFor of %d pieces is %d, want %d", told(c.s), k, got, out[k])
			}
			if got := impl.StreamBack(c.s, out[k]); got != in[k] {
				t.Fatalf("%s: StreamBack of %d parts is %d, want %d", told(c.s), k, got, in[k])
			}
		}
	}
}

// P45
func TestP45NoBytes(t *testing.T) {
	t.Parallel()
	for _, c := range okStreams(t) {
		for at := range len(c.s.In) + 1 {
			mustPut(t, c.m, c.s, at, "", at%2 == 0, answer{c.m, c.s, true})
			mustPut(t, c.m, c.s, at, "", at%2 == 1, answer{c.m, c.s, true})
		}
	}
}
