package tests

import (
	"fmt"
	"math"
	"regexp"
	"slices"
	"strconv"
	"strings"
	"testing"

	"loop.example/ostiary/impl"
)

// What the document says of packets, written a second time, by other means than the program's: a pattern for each kind, and lists of what is in form.
const anyForm = `([1-6]:[1-9]|9:1[0-7])`

var (
	dataForm = regexp.MustCompile(`\Adata ` + anyForm + ` ` + anyForm + ` (0|[1-9][0-9]?) ([a-z0-9@:;]{1,40})\z`)
	ackForm  = regexp.MustCompile(`\Aack ` + anyForm + ` ` + anyForm + ` (0|[1-9][0-9]?)()\z`)
)

var anySet = setOf(anyEnds())

func wantPktOk(p impl.Pkt) bool {
	if !anySet[p.From] || !anySet[p.To] || !slices.Contains(allPlaces(), p.At) || !okText.MatchString(p.Text) {
		return false
	}
	return p.Kind == 1 && p.Text != "" || p.Kind == 2 && p.Text == ""
}

func wantPktText(p impl.Pkt) string {
	if !wantPktOk(p) {
		return ""
	}
	end := func(e impl.End) string { return strings.Trim(name(e), "@;") }
	all := fmt.Sprintf("%s %s %d", end(p.From), end(p.To), p.At)
	if p.Kind == 1 {
		return "data " + all + " " + p.Text
	}
	return "ack " + all
}

func wantPktRead(t *testing.T, text string) (impl.Pkt, bool) {
	t.Helper()
	for i, form := range []*regexp.Regexp{dataForm, ackForm} {
		if m := form.FindStringSubmatch(text); m != nil {
			at, _ := strconv.Atoi(m[3])
			return impl.Pkt{Kind: i + 1, From: endNamed(t, m[1]), To: endNamed(t, m[2]), At: at, Text: m[4]}, true
		}
	}
	return impl.Pkt{}, false
}

// allPlaces is each At that a packet may have.
func allPlaces() []int {
	var all []int
	for at := range 100 {
		all = append(all, at)
	}
	return all
}

// edgePlaces are At of 0, of one figure, of two, and the greatest.
var edgePlaces = []int{0, 1, 5, 9, 10, 11, 40, 42, 90, 98, 99}

// wrongAts are no packet's, though some are once more if an int is cut to fewer bits.
var wrongAts = []int{-1, -2, -9, -10, -99, -100, 100, 101, 110, 128, 255, 256, 299, 999, 1000, 1 << 16, 1<<32 - 1, 1 << 32, 1<<32 + 5, 5 - 1<<32, math.MinInt, math.MinInt + 7, math.MaxInt - 1, math.MaxInt}

// wrongKinds are neither of data nor of ack.
var wrongKinds = []int{0, -1, -2, 3, 4, 5, 12, 1 << 8, 1<<8 + 1, 1<<16 + 2, 1<<32 + 1, 1<<32 + 2, math.MinInt, math.MaxInt}

// edgeEnds are the least and the greatest address and port of each side, and some between.
func edgeEnds() []impl.End {
	return slices.Concat(endsOf([]int{1, 3, 4, 6}, []int{1, 9}), endsOf([]int{9}, []int{10, 17}), []impl.End{{Addr: 2, Port: 5}, {Addr: 5, Port: 4}, {Addr: 9, Port: 13}})
}

// noEnds are not any end.
func noEnds() []impl.End {
	all := []impl.End{{}, {Addr: 1, Port: math.MaxInt}, {Addr: math.MinInt, Port: 1}, {Addr: 1<<32 + 1, Port: 1}, {Addr: 9, Port: 1<<32 + 10}, {Addr: 4, Port: 1<<8 + 4}}
	for _, e := range triedEnds() {
		if near := e.Addr >= -1 && e.Addr <= 12 && e.Port >= -1 && e.Port <= 20; near && !anySet[e] {
			all = append(all, e)
		}
	}
	return all
}

// bytesOfData is ok texts that data may have: of one byte of each kind, of 40, and between; with names, and with what is held.
func bytesOfData() []string {
	all := []string{"a", "z", "0", "9", "@", ":", ";", "ab", "data", "ack", "0a", "00", "1:1", "9:17", "@1:1;", "@9:10;b", "x@9:1"}
	for _, one := range []string{"a", "9", "@", ";"} {
		all = append(all, strings.Repeat(one, 39), strings.Repeat(one, 40))
	}
	return append(all, strings.Repeat("@1:1;", 8), strings.Repeat("@9:17;", 6)+"@9:1")
}

// okPkts tells packets in form: of both kinds between any two ends, with places and bytes taken in turn, and of edges each with each.
func okPkts(tell func(impl.Pkt)) {
	texts := bytesOfData()
	turn := 0
	for _, from := range anyEnds() {
		for _, to := range anyEnds() {
			for range 3 {
				turn++
				at := turn * 7 % 100
				tell(impl.Pkt{Kind: impl.PktAck, From: from, To: to, At: at})
				tell(impl.Pkt{Kind: impl.PktData, From: from, To: to, At: at, Text: texts[turn%len(texts)]})
			}
		}
	}
	for _, from := range edgeEnds() {
		for _, to := range edgeEnds() {
			for _, at := range edgePlaces {
				tell(impl.Pkt{Kind: impl.PktAck, From: from, To: to, At: at})
				for _, text := range texts {
					tell(impl.Pkt{Kind: impl.PktData, From: from, To: to, At: at, Text: text})
				}
			}
		}
	}
}

// fewPkts is packets in form for what is tried many times of each.
func fewPkts() []impl.Pkt {
	var all []impl.Pkt
	texts := bytesOfData()
	ends := edgeEnds()
	for i, from := range ends {
		for j, at := range edgePlaces {
			to := ends[(i*3+j)%len(ends)]
			all = append(all, impl.Pkt{Kind: impl.PktAck, From: from, To: to, At: at},
				impl.Pkt{Kind: impl.PktData, From: from, To: to, At: at, Text: texts[(i*5+j)%len(texts)]})
		}
	}
	return all
}

func toldPkt(p impl.Pkt) string {
	return fmt.Sprintf("{%d %v %v %d %.60q}", p.Kind, p.From, p.To, p.At, p.Text)
}

// mustBeInForm asks whether a packet is in form, and, if it must be, that it has this text, and is read back.
func mustBeInForm(t *testing.T, p impl.Pkt, want bool) {
	t.Helper()
	text := wantPktText(p)
	if ok := impl.PktOk(p); ok != want || wantPktOk(p) != want {
		t.Fatalf("%s: PktOk is %v, want %v", toldPkt(p), ok, want)
	}
	if got := impl.PktText(p); got != text {
		t.Fatalf("%s: PktText is %.100q, want %q", toldPkt(p), got, text)
	}
	if want {
		mustReadPkt(t, text, p)
	}
}

func mustReadPkt(t *testing.T, text string, want impl.Pkt) {
	t.Helper()
	if got, ok := impl.PktRead(text); !ok || got != want {
		t.Fatalf("PktRead(%q) is %s, %v; want %s", text, toldPkt(got), ok, toldPkt(want))
	}
}

func mustNotReadPkt(t *testing.T, text string) {
	t.Helper()
	if got, ok := impl.PktRead(text); ok || got != (impl.Pkt{}) {
		t.Fatalf("PktRead(%.100q) is %s, %v; want nothing and false", text, toldPkt(got), ok)
	}
}

// readAsWritten holds PktRead of any text against the patterns, and says whether it is a packet's.
func readAsWritten(t *testing.T, text string) bool {
	t.Helper()
	want, ok := wantPktRead(t, text)
	if ok {
		mustReadPkt(t, text, want)
	} else {
		mustNotReadPkt(t, text)
	}
	return ok
}

func TestPktKinds(t *testing.T) {
	t.Parallel()
	if impl.PktData != 1 || impl.PktAck != 2 {
		t.Errorf("the kinds are %d and %d", impl.PktData, impl.PktAck)
	}
}

func TestPktEdges(t *testing.T) {
	t.Parallel()
	end := func(addr, port int) impl.End { return impl.End{Addr: addr, Port: port} }
	long := strings.Repeat("a", 40)
	for _, c := range []struct {
		p    impl.Pkt
		text string
	}{
		{impl.Pkt{Kind: 1, From: end(1, 1), To: end(4, 4), At: 12, Text: "ab;"}, "data 1:1 4:4 12 ab;"},
		{impl.Pkt{Kind: 2, From: end(4, 4), To: end(9, 10)}, "ack 4:4 9:10 0"},
		{impl.Pkt{Kind: 1, From: end(1, 1), To: end(1, 1), At: 0, Text: "a"}, "data 1:1 1:1 0 a"},
		{impl.Pkt{Kind: 1, From: end(3, 9), To: end(6, 9), At: 9, Text: "@"}, "data 3:9 6:9 9 @"},
		{impl.Pkt{Kind: 1, From: end(4, 1), To: end(9, 17), At: 10, Text: "0"}, "data 4:1 9:17 10 0"},
		{impl.Pkt{Kind: 1, From: end(9, 17), To: end(9, 10), At: 99, Text: long}, "data 9:17 9:10 99 " + long},
		{impl.Pkt{Kind: 1, From: end(2, 5), To: end(9, 10), At: 1, Text: "@1:1;"}, "data 2:5 9:10 1 @1:1;"},
		{impl.Pkt{Kind: 1, From: end(2, 5), To: end(5, 2), At: 7, Text: "x@9:1"}, "data 2:5 5:2 7 x@9:1"},
		{impl.Pkt{Kind: 2, From: end(1, 1), To: end(4, 4), At: 99}, "ack 1:1 4:4 99"},
		{impl.Pkt{Kind: 2, From: end(9, 17), To: end(3, 9), At: 10}, "ack 9:17 3:9 10"},
		{impl.Pkt{Kind: 2, From: end(6, 9), To: end(6, 9), At: 9}, "ack 6:9 6:9 9"},
		{impl.Pkt{}, ""},
		{impl.Pkt{Kind: 0, From: end(1, 1), To: end(4, 4), Text: "a"}, ""},
		{impl.Pkt{Kind: 0, From: end(1, 1), To: end(4, 4)}, ""},
		{impl.Pkt{Kind: 3, From: end(1, 1), To: end(4, 4), Text: "a"}, ""},
		{impl.Pkt{Kind: 3, From: end(1, 1), To: end(4, 4)}, ""},
		{impl.Pkt{Kind: -1, From: end(1, 1), To: end(4, 4), Text: "a"}, ""},
		{impl.Pkt{Kind: 1, From: end(1, 1), To: end(4, 4)}, ""},
		{impl.Pkt{Kind: 2, From: end(1, 1), To: end(4, 4), Text: "a"}, ""},
		{impl.Pkt{Kind: 2, From: end(1, 1), To: end(4, 4), Text: " "}, ""},
		{impl.Pkt{Kind: 1, From: end(1, 1), To: end(4, 4), At: -1, Text: "a"}, ""},
		{impl.Pkt{Kind: 1, From: end(1, 1), To: end(4, 4), At: 100, Text: "a"}, ""},
		{impl.Pkt{Kind: 2, From: end(1, 1), To: end(4, 4), At: -1}, ""},
		{impl.Pkt{Kind: 2, From: end(1, 1), To: end(4, 4), At: 100}, ""},
		{impl.Pkt{Kind: 1, From: end(1, 1), To: end(4, 4), Text: long + "a"}, ""},
		{impl.Pkt{Kind: 1, From: end(1, 1), To: end(4, 4), Text: "A"}, ""},
		{impl.Pkt{Kind: 1, From: end(1, 1), To: end(4, 4), Text: "a b"}, ""},
		{impl.Pkt{Kind: 1, From: end(1, 1), To: end(4, 4), Text: " "}, ""},
		{impl.Pkt{Kind: 1, To: end(4, 4), Text: "a"}, ""},
		{impl.Pkt{Kind: 1, From: end(1, 1), Text: "a"}, ""},
		{impl.Pkt{Kind: 1, From: end(1, 10), To: end(4, 4), Text: "a"}, ""},
		{impl.Pkt{Kind: 1, From: end(1, 1), To: end(9, 9), Text: "a"}, ""},
		{impl.Pkt{Kind: 2, From: end(7, 1), To: end(4, 4)}, ""},
		{impl.Pkt{Kind: 2, From: end(1, 1), To: end(9, 18)}, ""},
	} {
		mustBeInForm(t, c.p, c.text != "")
		if got := impl.PktText(c.p); got != c.text {
			t.Errorf("%s: PktText is %q, want %q", toldPkt(c.p), got, c.text)
		}
	}
}

// Data of nothing is not in form, and no text is that of it: not without the blank, nor with it.
func TestDataOfNothing(t *testing.T) {
	t.Parallel()
	for _, from := range anyEnds() {
		for _, to := range edgeEnds() {
			for _, at := range edgePlaces {
				p := impl.Pkt{Kind: impl.PktData, From: from, To: to, At: at}
				mustBeInForm(t, p, false)
				p.Text = "a"
				text := strings.TrimSuffix(impl.PktText(p), "a")
				mustNotReadPkt(t, text)
				mustNotReadPkt(t, strings.TrimSuffix(text, " "))
			}
		}
	}
}

func TestPktOkAsWritten(t *testing.T) {
	t.Parallel()
	kinds := append([]int{1, 2}, wrongKinds...)
	places := append(slices.Clone(edgePlaces), wrongAts[:8]...)
	texts := []string{"", "a", "@1:1;", strings.Repeat("a", 40), strings.Repeat("a", 41), "A", " ", "a "}
	ends := append(edgeEnds(), noEnds()[:8]...)
	for _, kind := range kinds {
		for _, from := range ends {
			for _, to := range ends {
				for _, at := range places {
					for _, text := range texts {
						p := impl.Pkt{Kind: kind, From: from, To: to, At: at, Text: text}
						if ok := impl.PktOk(p); ok != wantPktOk(p) {
							t.Fatalf("%s: PktOk is %v", toldPkt(p), ok)
						}
						if got := impl.PktText(p); got != wantPktText(p) {
							t.Fatalf("%s: PktText is %q", toldPkt(p), got)
						}
					}
				}
			}
		}
	}
}

// What is wrong in one way alone.
func TestPktsThatAreNotInForm(t *testing.T) {
	t.Parallel()
	for _, p := range fewPkts() {
		mustBeInForm(t, p, true)
		for _, kind := range wrongKinds {
			mustBeInForm(t, impl.Pkt{Kind: kind, From: p.From, To: p.To, At: p.At, Text: p.Text}, false)
		}
		for _, text := range wrongTexts() {
			mustBeInForm(t, impl.Pkt{Kind: p.Kind, From: p.From, To: p.To, At: p.At, Text: text}, false)
		}
	}
}

// Any text that words make, so many that there are too few and too many.
func TestPktReadOfWords(t *testing.T) {
	t.Parallel()
	words := []string{"data", "ack", "1:1", "6:9", "9:10", "0", "12", "00", "a", "", "A"}
	read := 0
	var grow func(all []string)
	grow = func(all []string) {
		if readAsWritten(t, strings.Join(all, " ")) {
			read++
		}
		if len(all) == 5 {
			for _, more := range []string{" ", " a", " 0", " 1:1"} {
				mustNotReadPkt(t, strings.Join(all, " ")+more)
			}
			return
		}
		for _, w := range words {
			grow(append(all, w))
		}
	}
	grow(nil)
	// Two ends of three each, and two places: acks; and data with each of the words that are ok bytes.
	if want := 3*3*2 + 3*3*2*9; read != want {
		t.Errorf("%d texts are read, want %d", read, want)
	}
}

// A packet's text with one byte another one, one more, or one less.
func TestPktReadOfTextsNearby(t *testing.T) {
	t.Parallel()
	alphabet := "0129:; @+-aAdt.\n\x00\xff"
	for _, p := range fewPkts() {
		text := wantPktText(p)
		if !readAsWritten(t, text) {
			t.Fatalf("%q is no packet's", text)
		}
		for i := 0; i <= len(text); i++ {
			for j := range len(alphabet) {
				readAsWritten(t, text[:i]+alphabet[j:j+1]+text[i:])
				if i < len(text) {
					readAsWritten(t, text[:i]+alphabet[j:j+1]+text[i+1:])
				}
			}
			readAsWritten(t, text[:i])
			readAsWritten(t, text[i:])
			if i < len(text) {
				readAsWritten(t, text[:i]+text[i+1:])
			}
		}
	}
}

func TestPktReadOfWrongTexts(t *testing.T) {
	t.Parallel()
	for _, text := range []string{
		"", " ", "  ", "   ", "    ", "     ", "data", "ack", "data ", "ack ", "data 1:1", "ack 1:1", "data 1:1 4:4", "ack 1:1 4:4", "ack 1:1 4:4 ", "ack  1:1 4:4", "1:1 4:4 0", "1:1 4:4 0 a", " 1:1 4:4 0",
		"data 1:1 4:4 0", "data 1:1 4:4 0 ", "data 1:1 4:4 a", "data 1:1 4:4 ab 0", "ack 1:1 4:4 a", "data 1:1 4:4  a", "data 1:1 0 a", "ack 1:1 0", "ack 4:4 0 0",
		"ack 1:1 4:4 0 a", "ack 1:1 4:4 0 ", "ack 1:1 4:4 0 0", "data 1:1 4:4 0 a b", "data 1:1 4:4 0 a ", "data 1:1 4:4 0  a", "data 1:1 4:4 0 a\n", "data 1:1 4:4 0 a\x00", "ack 1:1 4:4 0\n", "ack 1:1 4:4 0\x00",
		" data 1:1 4:4 0 a", "data  1:1 4:4 0 a", "data 1:1  4:4 0 a", "data 1:1 4:4  0 a", " ack 1:1 4:4 0", "ack  1:1 4:4 0", "ack 1:1  4:4 0", "ack 1:1 4:4  0",
		"data\t1:1 4:4 0 a", "data\t1:1\t4:4\t0\ta", "ack\t1:1\t4:4\t0", "ack\n1:1 4:4 0", "data,1:1,4:4,0,a", "ack\u00a01:1 4:4 0",
		"data 1:1 4:4 00 a", "data 1:1 4:4 01 a", "data 1:1 4:4 012 a", "data 1:1 4:4 +1 a", "data 1:1 4:4 -1 a", "data 1:1 4:4 -0 a", "data 1:1 4:4 +0 a", "data 1:1 4:4 1_0 a", "data 1:1 4:4 0x1 a", "data 1:1 4:4 1e1 a", "data 1:1 4:4 1.0 a", "data 1:1 4:4 １ a", "data 1:1 4:4 ٣ a",
		"ack 1:1 4:4 00", "ack 1:1 4:4 01", "ack 1:1 4:4 +1", "ack 1:1 4:4 -1", "ack 1:1 4:4 -0", "ack 1:1 4:4 x", "ack 1:1 4:4 1:1", "ack 1:1 4:4 0x1", "ack 1:1 4:4 1_0", "ack 1:1 4:4 １",
		"data 1:1 4:4 100 a", "data 1:1 4:4 999 a", "ack 1:1 4:4 100", "ack 1:1 4:4 099", "ack 1:1 4:4 4294967296", "ack 1:1 4:4 18446744073709551616", "ack 1:1 4:4 18446744073709551628", "data 1:1 4:4 9223372036854775808 a", "ack 1:1 4:4 -9223372036854775808",
		"dat 1:1 4:4 0 a", "data1:1 4:4 0 a", "dataa 1:1 4:4 0 a", "Data 1:1 4:4 0 a", "DATA 1:1 4:4 0 a", "ac 1:1 4:4 0", "ackk 1:1 4:4 0", "Ack 1:1 4:4 0", "ACK 1:1 4:4 0", "1 1:1 4:4 0 a", "2 1:1 4:4 0", "x 1:1 4:4 0 a", "x 1:1 4:4 0", "syn 1:1 4:4 0",
		"data 1:10 4:4 0 a", "data 1:1 8:4 0 a", "data 1:1 9:9 0 a", "data 9:18 1:1 0 a", "data 0:1 4:4 0 a", "data 01:1 4:4 0 a", "data 1:01 4:4 0 a", "data +1:1 4:4 0 a", "data 1 4:4 0 a", "data 1:1: 4:4 0 a", "data @1:1; 4:4 0 a", "data 1:1 4 0 a", "data : 4:4 0 a", "data 1:1 : 0 a",
		"ack 1:10 4:4 0", "ack 1:1 8:4 0", "ack 7:1 4:4 0", "ack 1:1 4:10 0", "ack 1:1 9:9 0", "ack 1:1 9:18 0", "ack 1:1 4:0 0", "ack 1:1 04:4 0",
		"data 1:1 4:4 0 A", "data 1:1 4:4 0 é", "data 1:1 4:4 0 \xff", "data 1:1 4:4 0 -", "data 1:1 4:4 0 a\tb", "data 1:1 4:4 0 @１:1;",
		"\xff\xfe", "\x00", "data \xff \xff \xff \xff", "\n", "data\n", "data 1:1 4:4 0 a\ndata 1:1 4:4 1 a", "ack 1:1 4:4 0 ack 1:1 4:4 0",
	} {
		if _, ok := wantPktRead(t, text); ok {
			t.Fatalf("%q is a packet's", text)
		}
		mustNotReadPkt(t, text)
	}
	for b := range 256 {
		one := string([]byte{byte(b)})
		readAsWritten(t, one)
		readAsWritten(t, "data 1:1 4:4 0 "+one)
		readAsWritten(t, "data 1:1 4:4 "+one+" a")
		readAsWritten(t, "ack 1:1 4:4 "+one)
		readAsWritten(t, "ack 1:1"+one+"4:4 0")
	}
	for _, text := range wrongTexts() {
		mustNotReadPkt(t, text)
		mustNotReadPkt(t, "data 1:1 4:4 0 "+text)
	}
}

// Texts of 70 bytes, of more, and of far more: none is a packet's, as the longest there is has 58.
func TestPktReadOfLongTexts(t *testing.T) {
	t.Parallel()
	longest := "data 9:17 9:17 99 " + strings.Repeat("a", 40)
	if len(longest) != 58 || !readAsWritten(t, longest) {
		t.Fatalf("%q, of %d bytes, is not read", longest, len(longest))
	}
	okPkts(func(p impl.Pkt) {
		if n := len(impl.PktText(p)); n > len(longest) {
			t.Fatalf("%s: the text is of %d bytes", toldPkt(p), n)
		}
	})
	for _, more := range []string{"a", " ", "0", "\n", "@1:1;"} {
		for _, size := range []int{59, 60, 69, 70, 71, 72, 128, 58 + 1<<8, 1 << 16} {
			text := longest + strings.Repeat(more, size)
			mustNotReadPkt(t, text[:size])
		}
	}
	for _, size := range []int{69, 70, 71, 100000} {
		pad := strings.Repeat("0", size)
		for _, text := range []string{"ack 1:1 4:4 " + pad, "data 1:1 4:4 " + pad + "1 a", "data " + pad + "1:1 4:4 0 a", "ack 1:1 4:4 0 " + pad} {
			mustNotReadPkt(t, text)
			mustNotReadPkt(t, text[len(text)-size:])
		}
		for _, begin := range []string{"ack 1:1 4:4 0", "data 1:1 4:4 0 a"} {
			for _, one := range []string{" ", "0", "\x00"} {
				mustNotReadPkt(t, begin+strings.Repeat(one, size-len(begin)))
				mustNotReadPkt(t, strings.Repeat(one, size-len(begin))+begin)
			}
		}
		mustNotReadPkt(t, strings.Repeat(" ", size))
		mustNotReadPkt(t, strings.Repeat("a ", size))
		mustNotReadPkt(t, strings.Repeat("data 1:1 4:4 0 a ", size))
	}
}

// P46
func TestP46ReadBack(t *testing.T) {
	t.Parallel()
	okPkts(func(p impl.Pkt) {
		mustBeInForm(t, p, true)
		mustReadPkt(t, impl.PktText(p), p)
	})
}

// P47
func TestP47OneWay(t *testing.T) {
	t.Parallel()
	read := 0
	one := func(text string) {
		p, ok := impl.PktRead(text)
		if !ok {
			if p != (impl.Pkt{}) {
				t.Fatalf("PktRead(%q) is false, beside %s", text, toldPkt(p))
			}
			return
		}
		read++
		if !impl.PktOk(p) || !wantPktOk(p) || impl.PktText(p) != text {
			t.Fatalf("PktRead(%q) is %s, whose text is %q", text, toldPkt(p), impl.PktText(p))
		}
	}
	allTexts("0129+- a:", 4, func(text string) {
		one("data 1:1 4:4 " + text)
		one("data 1:1 " + text + " 0 a")
		one("data " + text + " 4:4 0 a")
		one("ack 1:1 4:4 " + text)
		one("ack " + text + " 9:10 12")
		one("ack 1:1" + text + "0")
		one(text + "ack 1:1 4:4 0")
		one("data 1:1 4:4 0 " + text)
		one("ack 1:1 4:4 0" + text)
	})
	allTexts("data ck", 5, func(text string) {
		one(text + " 1:1 4:4 0")
		one(text + " 1:1 4:4 0 a")
		one(text + "1:1 4:4 0 a")
	})
	if read < 1000 {
		t.Errorf("%d texts alone are read", read)
	}
}

// P48
func TestP48TextsApart(t *testing.T) {
	t.Parallel()
	whose := map[string]impl.Pkt{}
	okPkts(func(p impl.Pkt) {
		text := impl.PktText(p)
		if other, there := whose[text]; there && other != p || text == "" {
			t.Fatalf("%s and %s: the text is %q", toldPkt(p), toldPkt(other), text)
		}
		whose[text] = p
		again := impl.Pkt{Kind: p.Kind, From: p.From, To: p.To, At: p.At, Text: strings.Clone(p.Text)}
		if impl.PktText(again) != text {
			t.Fatalf("%s: the text is %q, and then %q", toldPkt(p), text, impl.PktText(again))
		}
	})
	few := fewPkts()
	for _, a := range few {
		for _, b := range few {
			if (impl.PktText(a) == impl.PktText(b)) != (a == b) {
				t.Fatalf("%s and %s: %q and %q", toldPkt(a), toldPkt(b), impl.PktText(a), impl.PktText(b))
			}
		}
	}
}

// P49
func TestP49BytesOfData(t *testing.T) {
	t.Parallel()
	okPkts(func(p impl.Pkt) {
		if !impl.PktOk(p) || (p.Text != "") != (p.Kind == impl.PktData) {
			t.Fatalf("%s: PktOk is %v", toldPkt(p), impl.PktOk(p))
		}
		p.Kind = impl.PktData + impl.PktAck - p.Kind
		mustBeInForm(t, p, false)
	})
}

// P50
func TestP50OtherEnds(t *testing.T) {
	t.Parallel()
	okPkts(func(p impl.Pkt) {
		mustBeInForm(t, impl.Pkt{Kind: p.Kind, From: p.To, To: p.From, At: p.At, Text: p.Text}, true)
	})
	ends, none := anyEnds(), noEnds()
	for _, p := range fewPkts() {
		for _, e := range ends {
			mustBeInForm(t, impl.Pkt{Kind: p.Kind, From: e, To: p.To, At: p.At, Text: p.Text}, true)
			mustBeInForm(t, impl.Pkt{Kind: p.Kind, From: p.From, To: e, At: p.At, Text: p.Text}, true)
		}
		for _, e := range none {
			mustBeInForm(t, impl.Pkt{Kind: p.Kind, From: e, To: p.To, At: p.At, Text: p.Text}, false)
			mustBeInForm(t, impl.Pkt{Kind: p.Kind, From: p.From, To: e, At: p.At, Text: p.Text}, false)
			mustBeInForm(t, impl.Pkt{Kind: p.Kind, From: e, To: e, At: p.At, Text: p.Text}, false)
		}
	}
	for _, e := range triedEnds() {
		if !anySet[e] {
			mustBeInForm(t, impl.Pkt{Kind: impl.PktAck, From: e, To: ends[0]}, false)
			mustBeInForm(t, impl.Pkt{Kind: impl.PktData, From: ends[0], To: e, Text: "a"}, false)
		}
	}
}

// P51
func TestP51TextChanged(t *testing.T) {
	t.Parallel()
	none, others := 0, 0
	okPkts(func(p impl.Pkt) {
		text := impl.PktText(p)
		if text == "" {
			t.Fatalf("%s has no text", toldPkt(p))
		}
		short := text[:len(text)-1]
		if got, ok := impl.PktRead(short); ok && got == p {
			t.Fatalf("PktRead(%q) is %s too", short, toldPkt(p))
		}
		if readAsWritten(t, short) {
			others++
		} else {
			none++
		}
		mustNotReadPkt(t, text+" ")
		mustNotReadPkt(t, " "+text)
	})
	if none == 0 || others == 0 {
		t.Errorf("%d texts are none, and %d others", none, others)
	}
	for _, p := range fewPkts() {
		text := impl.PktText(p)
		for i := range text {
			mustNotReadPkt(t, text[:i]+" "+text[i:])
		}
	}
}

// P52
func TestP52Places(t *testing.T) {
	t.Parallel()
	for _, p := range fewPkts() {
		for _, at := range allPlaces() {
			mustBeInForm(t, impl.Pkt{Kind: p.Kind, From: p.From, To: p.To, At: at, Text: p.Text}, true)
		}
		for _, at := range wrongAts {
			mustBeInForm(t, impl.Pkt{Kind: p.Kind, From: p.From, To: p.To, At: at, Text: p.Text}, false)
		}
	}
}

// P52
func TestP52AckWithBytes(t *testing.T) {
	t.Parallel()
	texts := slices.Concat(bytesOfData(), fragments, wrongTexts())
	for _, p := range fewPkts() {
		if p.Kind != impl.PktAck {
			continue
		}
		text := impl.PktText(p)
		for _, bytes := range texts {
			if bytes == "" {
				continue
			}
			mustBeInForm(t, impl.Pkt{Kind: p.Kind, From: p.From, To: p.To, At: p.At, Text: bytes}, false)
			mustNotReadPkt(t, text+" "+bytes)
			// Figures right behind are another place; still it is an ack.
			if got, ok := impl.PktRead(text + bytes); ok && (got.Kind != impl.PktAck || got.Text != "") {
				t.Fatalf("PktRead(%q) is %s", text+bytes, toldPkt(got))
			}
		}
	}
}
