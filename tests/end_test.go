package tests

import (
	"math"
	"slices"
	"strconv"
	"strings"
	"testing"

	"loop.example/ostiary/impl"
)

// The ends of each side as the document lists them, written out by hand: a wrong limit in the program must not slip into what it is held against.
var (
	insideAddrs  = []int{1, 2, 3}
	outsideAddrs = []int{4, 5, 6}
	doorAddrs    = []int{9}
	hostPorts    = []int{1, 2, 3, 4, 5, 6, 7, 8, 9}
	doorPorts    = []int{10, 11, 12, 13, 14, 15, 16, 17}
)

func endsOf(addrs, ports []int) []impl.End {
	var all []impl.End
	for _, a := range addrs {
		for _, p := range ports {
			all = append(all, impl.End{Addr: a, Port: p})
		}
	}
	return all
}

func insideEnds() []impl.End  { return endsOf(insideAddrs, hostPorts) }
func outsideEnds() []impl.End { return endsOf(outsideAddrs, hostPorts) }
func doorEnds() []impl.End    { return endsOf(doorAddrs, doorPorts) }

func anyEnds() []impl.End {
	return slices.Concat(insideEnds(), outsideEnds(), doorEnds())
}

func setOf(ends []impl.End) map[impl.End]bool {
	set := map[impl.End]bool{}
	for _, e := range ends {
		set[e] = true
	}
	return set
}

// triedEnds is all ends there are, all near them, and some far off that are near once more if an int is cut to fewer bits.
func triedEnds() []impl.End {
	var numbers []int
	for n := -20; n <= 120; n++ {
		numbers = append(numbers, n)
	}
	for _, far := range []int{1 << 8, 1 << 16, 1 << 32} {
		for _, n := range []int{1, 3, 4, 6, 9, 10, 17} {
			numbers = append(numbers, far+n, n-far)
		}
	}
	numbers = append(numbers, math.MinInt, math.MinInt+1, math.MaxInt-1, math.MaxInt)
	return endsOf(numbers, numbers)
}

// allTexts tells each text of at most size bytes of the alphabet.
func allTexts(alphabet string, size int, tell func(string)) {
	var grow func(text string)
	grow = func(text string) {
		tell(text)
		if len(text) == size {
			return
		}
		for i := range len(alphabet) {
			grow(text + alphabet[i:i+1])
		}
	}
	grow("")
}

func mustNotRead(t *testing.T, text string) {
	t.Helper()
	if e, ok := impl.EndRead(text); ok || e != (impl.End{}) {
		t.Errorf("EndRead(%q) is %v, %v; want nothing and false", text, e, ok)
	}
}

func TestEndLimits(t *testing.T) {
	t.Parallel()
	got := []int{impl.InsideMax, impl.OutsideMin, impl.OutsideMax, impl.DoorAddr, impl.PortMax, impl.DoorMin, impl.DoorMax}
	want := []int{3, 4, 6, 9, 9, 10, 17}
	for i := range want {
		if got[i] != want[i] {
			t.Errorf("limit %d is %d, want %d", i, got[i], want[i])
		}
	}
}

func TestEndSides(t *testing.T) {
	t.Parallel()
	inside, outside, door := setOf(insideEnds()), setOf(outsideEnds()), setOf(doorEnds())
	for _, e := range triedEnds() {
		if got := impl.EndInside(e); got != inside[e] {
			t.Errorf("EndInside(%v) is %v", e, got)
		}
		if got := impl.EndOutside(e); got != outside[e] {
			t.Errorf("EndOutside(%v) is %v", e, got)
		}
		if got := impl.EndDoor(e); got != door[e] {
			t.Errorf("EndDoor(%v) is %v", e, got)
		}
	}
}

func TestEndEdges(t *testing.T) {
	t.Parallel()
	for _, c := range []struct {
		addr, port int
		side, text string
	}{
		{1, 1, "inside", "1:1"}, {1, 9, "inside", "1:9"}, {3, 1, "inside", "3:1"}, {3, 9, "inside", "3:9"},
		{4, 1, "outside", "4:1"}, {4, 9, "outside", "4:9"}, {6, 1, "outside", "6:1"}, {6, 9, "outside", "6:9"},
		{9, 10, "door", "9:10"}, {9, 17, "door", "9:17"},
		{0, 1, "", ""}, {0, 9, "", ""}, {7, 1, "", ""}, {7, 9, "", ""},
		{1, 0, "", ""}, {1, 10, "", ""}, {3, 0, "", ""}, {3, 10, "", ""},
		{4, 0, "", ""}, {4, 10, "", ""}, {6, 0, "", ""}, {6, 10, "", ""}, {6, 17, "", ""},
		{8, 1, "", ""}, {8, 10, "", ""}, {8, 17, "", ""}, {10, 10, "", ""}, {10, 17, "", ""},
		{9, 1, "", ""}, {9, 9, "", ""}, {9, 18, "", ""},
		{0, 0, "", ""}, {-1, 1, "", ""}, {1, -1, "", ""}, {-9, -10, "", ""},
		{math.MaxInt, 1, "", ""}, {1, math.MaxInt, "", ""}, {9, math.MinInt, "", ""}, {math.MinInt, 10, "", ""},
	} {
		e := impl.End{Addr: c.addr, Port: c.port}
		if impl.EndInside(e) != (c.side == "inside") || impl.EndOutside(e) != (c.side == "outside") || impl.EndDoor(e) != (c.side == "door") {
			t.Errorf("%v: want side %q", e, c.side)
		}
		if got := impl.EndText(e); got != c.text {
			t.Errorf("EndText(%v) is %q, want %q", e, got, c.text)
		}
	}
}

// P1
func TestP1AtMostOneSide(t *testing.T) {
	t.Parallel()
	for _, e := range triedEnds() {
		sides := 0
		for _, on := range []bool{impl.EndInside(e), impl.EndOutside(e), impl.EndDoor(e)} {
			if on {
				sides++
			}
		}
		if sides > 1 {
			t.Errorf("%v is on %d sides", e, sides)
		}
		if text := impl.EndText(e); (sides == 1) != (text != "") {
			t.Errorf("%v is on %d sides, and its text is %q", e, sides, text)
		}
	}
	for _, e := range anyEnds() {
		if impl.EndText(e) == "" {
			t.Errorf("%v has no text", e)
		}
	}
}

// P2
func TestP2ReadBack(t *testing.T) {
	t.Parallel()
	for _, e := range anyEnds() {
		text := impl.EndText(e)
		if got, ok := impl.EndRead(text); !ok || got != e {
			t.Errorf("EndRead(%q) is %v, %v; want %v", text, got, ok, e)
		}
	}
}

// P3
func TestP3ReadOneWay(t *testing.T) {
	t.Parallel()
	valid := setOf(anyEnds())
	read := map[impl.End]bool{}
	one := func(text string) {
		e, ok := impl.EndRead(text)
		if !ok {
			if e != (impl.End{}) {
				t.Errorf("EndRead(%q) is false, beside %v", text, e)
			}
			return
		}
		if !valid[e] || impl.EndText(e) != text {
			t.Errorf("EndRead(%q) is %v, whose text is %q", text, e, impl.EndText(e))
		}
		read[e] = true
	}
	allTexts("0123456789: +-_@;ax\x00", 4, one)
	allTexts("019:+ ", 6, one)
	if len(read) != len(valid) {
		t.Errorf("%d ends are read, want %d", len(read), len(valid))
	}
}

func TestP3WrongTexts(t *testing.T) {
	t.Parallel()
	for _, text := range []string{
		"", ":", "1", "1:", ":1", "9:", "9:1", "11", "910", "0:0", "0:1", "1:0", "9:0",
		"1:10", "3:17", "4:10", "6:17", "9:9", "9:18", "9:100", "7:1", "8:10", "10:10", "12:1", "19:10",
		"1::1", "1:1:", ":1:1", "1:1:1", "9:10:1", "1:1;", "@1:1;", "1;1", "1,1", "1-1",
		"01:1", "1:01", "001:1", "09:10", "9:010", "+1:1", "1:+1", "-1:1", "1:-1", "-1:-1",
		" 1:1", "1:1 ", "1 :1", "1: 1", " ", " : ", "1:1\n", "\t1:1", "1:1\x00", "\x001:1",
		"a:1", "1:a", "a:b", "0x1:1", "1:0x1", "1_:1", "1:1_0", "9:1_0", "1e0:1", "1.0:1",
		"\xff:1", "1:\xff", "１:1", "1:１", "1：1", "٣:1",
		"4294967297:1", "1:4294967297", "18446744073709551617:1", "1:18446744073709551617", "9:18446744073709551626",
		strings.Repeat("0", 100000) + "1:1", "1:" + strings.Repeat("1", 100000), strings.Repeat(":", 100000),
	} {
		mustNotRead(t, text)
	}
}

// P4
func TestP4WhosePorts(t *testing.T) {
	t.Parallel()
	for _, e := range triedEnds() {
		ofHost, ofDoor := impl.EndInside(e) || impl.EndOutside(e), impl.EndDoor(e)
		if ofHost && e.Port >= 10 && e.Port <= 17 {
			t.Errorf("a host has the port of the door: %v", e)
		}
		if ofDoor && e.Port >= 1 && e.Port <= 9 {
			t.Errorf("the door has the port of a host: %v", e)
		}
	}
	for _, e := range slices.Concat(endsOf(insideAddrs, doorPorts), endsOf(outsideAddrs, doorPorts), endsOf(doorAddrs, hostPorts)) {
		if text := impl.EndText(e); text != "" {
			t.Errorf("EndText(%v) is %q", e, text)
		}
		mustNotRead(t, strconv.Itoa(e.Addr)+":"+strconv.Itoa(e.Port))
	}
}

// P5
func TestP5TextChanged(t *testing.T) {
	t.Parallel()
	for _, e := range anyEnds() {
		text := impl.EndText(e)
		if text == "" {
			t.Fatalf("%v has no text", e)
		}
		short := text[:len(text)-1]
		if got, ok := impl.EndRead(short); ok && got == e {
			t.Errorf("EndRead(%q) is %v too", short, got)
		}
		for i := 0; i <= len(text); i++ {
			mustNotRead(t, text[:i]+" "+text[i:])
		}
		addr, port, _ := strings.Cut(text, ":")
		mustNotRead(t, "0"+text)
		mustNotRead(t, addr+":0"+port)
		mustNotRead(t, "00"+addr+":00"+port)
	}
}

// P6
func TestP6TextsApart(t *testing.T) {
	t.Parallel()
	ends := anyEnds()
	for _, a := range ends {
		for _, b := range ends {
			textA, textB := impl.EndText(a), impl.EndText(b)
			if (textA == textB) != (a == b) {
				t.Errorf("%v and %v: %q and %q", a, b, textA, textB)
			}
			if strings.HasPrefix(textA, textB+":") {
				t.Errorf("%q begins with %q and a colon", textA, textB)
			}
		}
	}
}
