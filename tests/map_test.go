package tests

import (
	"math"
	"regexp"
	"slices"
	"strconv"
	"strings"
	"testing"

	"loop.example/ostiary/impl"
)

// What the document says of the map, written a second time, by other means than the program's: lists that are searched, and names found by a pattern.
var anyName = regexp.MustCompile(`@[1-6]:[1-9];|@9:1[0-7];`)

const wantPorts = 8

func endNamed(t *testing.T, written string) impl.End {
	t.Helper()
	addr, port, found := strings.Cut(strings.Trim(written, "@;"), ":")
	a, errA := strconv.Atoi(addr)
	p, errP := strconv.Atoi(port)
	if !found || errA != nil || errP != nil {
		t.Fatalf("%q names nobody", written)
	}
	return impl.End{Addr: a, Port: p}
}

func portOf(m []impl.Pair, e impl.End) int {
	for _, p := range m {
		if p.Inside == e {
			return p.Port
		}
	}
	return 0
}

func endFor(m []impl.Pair, port int) impl.End {
	for _, p := range m {
		if p.Port == port {
			return p.Inside
		}
	}
	return impl.End{}
}

// wantOut is MapOut of an ok map, and an end inside.
func wantOut(m []impl.Pair, e impl.End) ([]impl.Pair, int, bool) {
	if port := portOf(m, e); port != 0 {
		return m, port, true
	}
	if len(m) >= wantPorts {
		return m, 0, false
	}
	port := 10 + len(m)
	return append(slices.Clone(m), impl.Pair{Port: port, Inside: e}), port, true
}

// unheld is all of a text but what is held of it.
func unheld(text string) string {
	return text[:len(text)-wantHeld(text)]
}

// wantTextOut is MapTextOut of an ok map, and an ok text.
func wantTextOut(t *testing.T, m []impl.Pair, text string) ([]impl.Pair, string) {
	t.Helper()
	out := anyName.ReplaceAllStringFunc(unheld(text), func(written string) string {
		e := endNamed(t, written)
		if e.Addr > 3 {
			return written
		}
		then, port, ok := wantOut(m, e)
		if !ok {
			return written
		}
		m = then
		return "@9:" + strconv.Itoa(port) + ";"
	})
	return m, out
}

// wantTextIn is MapTextIn of an ok map, and an ok text.
func wantTextIn(t *testing.T, m []impl.Pair, text string) string {
	t.Helper()
	return anyName.ReplaceAllStringFunc(unheld(text), func(written string) string {
		e := endNamed(t, written)
		if inside := endFor(m, e.Port); e.Addr == 9 && inside != (impl.End{}) {
			return name(inside)
		}
		return written
	})
}

// namedIn is all ends that a text names, however long it is: what goes out may be longer than a text may be.
func namedIn(t *testing.T, text string) []impl.End {
	t.Helper()
	var all []impl.End
	for _, written := range anyName.FindAllString(text, -1) {
		all = append(all, endNamed(t, written))
	}
	return all
}

func isInside(e impl.End) bool { return slices.Contains(insideAddrs, e.Addr) }
func isDoor(e impl.End) bool   { return slices.Contains(doorAddrs, e.Addr) }

// portsEnough says whether each end inside that a text names has a port, or there is one left for it.
func portsEnough(t *testing.T, m []impl.Pair, text string) bool {
	t.Helper()
	further := map[impl.End]bool{}
	for _, e := range namedIn(t, unheld(text)) {
		if isInside(e) && portOf(m, e) == 0 {
			further[e] = true
		}
	}
	return len(m)+len(further) <= wantPorts
}

// mapOf is the map whose ports stand for these ends, in order.
func mapOf(ends ...impl.End) []impl.Pair {
	var m []impl.Pair
	for i, e := range ends {
		m = append(m, impl.Pair{Port: 10 + i, Inside: e})
	}
	return m
}

// okMaps is maps of each size, none and all ports with them, of ends in several orders.
func okMaps() [][]impl.Pair {
	ends := insideEnds()
	back := slices.Clone(ends)
	slices.Reverse(back)
	mixed := make([]impl.End, 0, len(ends))
	for i := range ends {
		mixed = append(mixed, ends[i*10%len(ends)])
	}
	var all [][]impl.Pair
	for _, order := range [][]impl.End{ends, back, mixed} {
		for n := 0; n <= wantPorts; n++ {
			all = append(all, mapOf(order[:n]...))
		}
	}
	return all
}

// wrongMaps is maps that are not ok, each in one way.
func wrongMaps() map[string][]impl.Pair {
	e := insideEnds()
	changed := func(at int, p impl.Pair) []impl.Pair {
		m := mapOf(e[:wantPorts]...)
		m[at] = p
		return m
	}
	wrong := map[string][]impl.Pair{
		"begins one later":        {{Port: 11, Inside: e[0]}},
		"begins one earlier":      {{Port: 9, Inside: e[0]}},
		"one earlier, and all":    {{Port: 9, Inside: e[0]}, {Port: 10, Inside: e[1]}, {Port: 11, Inside: e[2]}},
		"begins with the last":    {{Port: 17, Inside: e[0]}},
		"begins with 0":           {{Port: 0, Inside: e[0]}, {Port: 1, Inside: e[1]}},
		"below 0":                 {{Port: -10, Inside: e[0]}},
		"a port left out":         {{Port: 10, Inside: e[0]}, {Port: 12, Inside: e[1]}},
		"the second left out":     slices.Delete(mapOf(e[:wantPorts]...), 1, 2),
		"the last but one is out": slices.Delete(mapOf(e[:wantPorts]...), 6, 7),
		"two exchanged":           {{Port: 11, Inside: e[0]}, {Port: 10, Inside: e[1]}},
		"downward":                {{Port: 12, Inside: e[0]}, {Port: 11, Inside: e[1]}, {Port: 10, Inside: e[2]}},
		"a port twice":            {{Port: 10, Inside: e[0]}, {Port: 10, Inside: e[1]}},
		"a pair twice":            {{Port: 10, Inside: e[0]}, {Port: 10, Inside: e[0]}},
		"an end twice":            mapOf(e[0], e[0]),
		"an end twice, far apart": changed(7, impl.Pair{Port: 17, Inside: e[0]}),
		"one too many":            mapOf(e[:wantPorts+1]...),
		"one too many, begins on": mapOf(e[:wantPorts+2]...)[1:],
		"far too many":            mapOf(slices.Repeat(e, 1000)...),
		"an end with no port":     mapOf(e[0], impl.End{Addr: 1, Port: 0}),
		"an end of a door's port": mapOf(e[0], impl.End{Addr: 1, Port: 10}),
		"an end outside":          mapOf(impl.End{Addr: 4, Port: 4}),
		"an end outside, last":    changed(7, impl.Pair{Port: 17, Inside: impl.End{Addr: 6, Port: 9}}),
		"an end of the door":      mapOf(impl.End{Addr: 9, Port: 10}),
		"an end of no side":       mapOf(impl.End{Addr: 7, Port: 7}),
		"no end":                  mapOf(impl.End{}),
		"nothing in it":           {{}},
		"nothing behind":          append(mapOf(e[0]), impl.Pair{}),
		"too great a port":        {{Port: 1<<32 + 10, Inside: e[0]}},
		"the greatest port":       {{Port: math.MaxInt, Inside: e[0]}},
		"the least port":          {{Port: math.MinInt, Inside: e[0]}},
	}
	for at := range wantPorts {
		wrong["the port of place "+strconv.Itoa(at)] = changed(at, impl.Pair{Port: 18, Inside: e[at]})
		wrong["the end of place "+strconv.Itoa(at)] = changed(at, impl.Pair{Port: 10 + at, Inside: impl.End{Addr: 5, Port: 5}})
	}
	return wrong
}

// notInside is ends outside, of the door, and of no side.
func notInside() []impl.End {
	return slices.Concat(outsideEnds(), doorEnds(), []impl.End{
		{}, {Addr: 1, Port: 0}, {Addr: 1, Port: 10}, {Addr: 3, Port: 17}, {Addr: 0, Port: 1}, {Addr: 7, Port: 7}, {Addr: 9, Port: 9}, {Addr: 9, Port: 1}, {Addr: 9, Port: 18},
		{Addr: -1, Port: 1}, {Addr: 1, Port: -1}, {Addr: 1<<32 + 1, Port: 1}, {Addr: 1, Port: 1<<32 + 1}, {Addr: math.MaxInt, Port: math.MinInt},
	})
}

// mapTexts is texts that name many ends: all at once, the same ones again, each side beside the others, and cut in the midst.
func mapTexts() []string {
	all := fewTexts()
	ends := insideEnds()
	for first := range ends {
		many, cut := "", ""
		for i := range wantPorts {
			e := ends[(first+i*first)%len(ends)]
			many += name(e)
			if i < 7 {
				cut += name(e)
			}
		}
		all = append(all, many, cut, cut+"@", cut+"@1", cut+"@1:", cut+"@1:1", cut+"@9:10", cut+"abcde")
	}
	for i, in := range ends {
		door, out := doorEnds()[i%8], outsideEnds()[i]
		all = append(all,
			name(in)+name(in), name(in)+"a"+name(in)+"a"+name(in),
			name(in)+name(out)+name(door)+name(in), name(door)+name(door)+name(in), name(door)+name(in)+name(out)+"@9:1",
			"@"+name(in)+"@1"+name(in)+"@1:"+name(in)+"@1:1", "@9:1"+name(door)+"@9:17"+name(in)+"@",
			"@1:1@1:2@"+name(in)+";;"+name(door)+"0")
	}
	for first := range 8 {
		text := ""
		for i := range 6 {
			text += name(doorEnds()[(first+i)%8])
		}
		all = append(all, text, text+"@9:1", text+"abcd")
	}
	return all
}

func sameMap(t *testing.T, what string, got, want []impl.Pair) {
	t.Helper()
	if !slices.Equal(got, want) {
		t.Fatalf("%s: the map is %v, want %v", what, got, want)
	}
}

func mustTextOut(t *testing.T, m []impl.Pair, text string, wantM []impl.Pair, want string) {
	t.Helper()
	then, out := impl.MapTextOut(m, text)
	if out != want {
		t.Fatalf("MapTextOut of %.60q by %v is %q, want %q", text, m, out, want)
	}
	sameMap(t, "MapTextOut of "+text, then, wantM)
}

func mustTextIn(t *testing.T, m []impl.Pair, text, want string) {
	t.Helper()
	if in := impl.MapTextIn(m, text); in != want {
		t.Fatalf("MapTextIn of %.60q by %v is %q, want %q", text, m, in, want)
	}
}

// mustOutFail asks for a MapOut that is false, and leaves this behind.
func mustOutFail(t *testing.T, m []impl.Pair, e impl.End, left []impl.Pair) {
	t.Helper()
	then, port, ok := impl.MapOut(m, e)
	if ok || port != 0 || !slices.Equal(then, left) {
		t.Errorf("MapOut of %v by %v is %v, %d, %v; want %v, 0, false", e, m, then, port, ok, left)
	}
}

func mustInFail(t *testing.T, m []impl.Pair, port int) {
	t.Helper()
	if e, ok := impl.MapIn(m, port); ok || e != (impl.End{}) {
		t.Errorf("MapIn of %d by %v is %v, %v; want nothing and false", port, m, e, ok)
	}
}

// grow is the map behind MapOut of an end that must get a port.
func grow(t *testing.T, m []impl.Pair, e impl.End) []impl.Pair {
	t.Helper()
	then, _, ok := impl.MapOut(m, e)
	if !ok {
		t.Fatalf("MapOut of %v by %v is false", e, m)
	}
	return then
}

// furtherEnds is ends inside that have no port.
func furtherEnds(m []impl.Pair) []impl.End {
	return slices.DeleteFunc(insideEnds(), func(e impl.End) bool { return portOf(m, e) != 0 })
}

func TestMapOutEdges(t *testing.T) {
	t.Parallel()
	ends := insideEnds()
	m, port, ok := impl.MapOut(nil, ends[26])
	if want := []impl.Pair{{Port: 10, Inside: impl.End{Addr: 3, Port: 9}}}; !ok || port != 10 || !slices.Equal(m, want) {
		t.Errorf("the first port: %v, %d, %v", m, port, ok)
	}
	seven, eight := mapOf(ends[:7]...), mapOf(ends[:8]...)
	if m, port, ok := impl.MapOut(seven, ends[7]); !ok || port != 17 || !slices.Equal(m, eight) {
		t.Errorf("the last port: %v, %d, %v", m, port, ok)
	}
	for _, e := range ends[8:] {
		mustOutFail(t, eight, e, eight)
	}
	for i, e := range ends[:8] {
		if m, port, ok := impl.MapOut(eight, e); !ok || port != 10+i || !slices.Equal(m, eight) {
			t.Errorf("%v has its port when none is left: %v, %d, %v", e, m, port, ok)
		}
	}
}

func TestMapTextOutEdges(t *testing.T) {
	t.Parallel()
	ends := insideEnds()
	one, seven, eight := mapOf(ends[:1]...), mapOf(ends[:7]...), mapOf(ends[:8]...)
	allNew := "@1:1;@1:2;@1:3;@1:4;@1:5;@1:6;@1:7;@1:8;"
	allDoor := "@9:10;@9:11;@9:12;@9:13;@9:14;@9:15;@9:16;@9:17;"
	for _, c := range []struct {
		m    []impl.Pair
		text string
		then []impl.Pair
		out  string
	}{
		{nil, "", nil, ""},
		{one, "", one, ""},
		{nil, "abc", nil, "abc"},
		{nil, "@1:1;", one, "@9:10;"},
		{nil, "@1:1;@1:1;a@1:1;", one, "@9:10;@9:10;a@9:10;"},
		{one, "@1:2;@1:1;@1:2;", mapOf(ends[:2]...), "@9:11;@9:10;@9:11;"},
		{nil, "@4:4;@9:10;@7:7;", nil, "@4:4;@9:10;@7:7;"},
		{nil, "@9:10;@1:1;", one, "@9:10;@9:10;"},
		{nil, "a@1:1", nil, "a"},
		{nil, "@1:1;@1:2", one, "@9:10;"},
		{nil, "@1:1@", nil, "@1:1"},
		{nil, "@@1:1;;", one, "@@9:10;;"},
		{nil, allNew, eight, allDoor},
		{eight, allNew, eight, allDoor},
		{nil, strings.Repeat("@1:1;", 8), one, strings.Repeat("@9:10;", 8)},
		{seven, "@1:8;@1:9;", eight, "@9:17;@1:9;"},
		{seven, "@1:9;@1:8;@1:7;", mapOf(append(slices.Clone(ends[:7]), ends[8])...), "@9:17;@1:8;@9:16;"},
		{eight, "@1:9;@1:8;@2:1;@1:1;", eight, "@1:9;@9:17;@2:1;@9:10;"},
		{eight, "@3:9;x@4:4;@9:17;@3", eight, "@3:9;x@4:4;@9:17;"},
	} {
		mustTextOut(t, c.m, c.text, c.then, c.out)
	}
}

func TestMapTextInEdges(t *testing.T) {
	t.Parallel()
	ends := insideEnds()
	one, eight := mapOf(ends[26]), mapOf(ends[:8]...)
	for _, c := range []struct {
		m        []impl.Pair
		text, in string
	}{
		{nil, "", ""},
		{one, "", ""},
		{nil, "abc@9:10;", "abc@9:10;"},
		{one, "@9:10;", "@3:9;"},
		{one, "@9:10;@9:11;@9:10;", "@3:9;@9:11;@3:9;"},
		{one, "@9:9;@9:18;@8:10;@1:10;", "@9:9;@9:18;@8:10;@1:10;"},
		{one, "@3:9;@1:1;@4:4;", "@3:9;@1:1;@4:4;"},
		{one, "a@9:10", "a"},
		{one, "@9:10@", "@9:10"},
		{one, "@@9:10;;", "@@3:9;;"},
		{eight, "@9:10;@9:17;@9:13;@9", "@1:1;@1:8;@1:4;"},
		{eight, strings.Repeat("@9:17;", 6) + "@9:1", strings.Repeat("@1:8;", 6)},
		{mapOf(ends[:7]...), "@9:16;@9:17;", "@1:7;@9:17;"},
	} {
		mustTextIn(t, c.m, c.text, c.in)
	}
}

func TestMapsAsWritten(t *testing.T) {
	t.Parallel()
	for _, m := range okMaps() {
		if !impl.MapOk(m) {
			t.Fatalf("MapOk(%v) is false", m)
		}
		for _, e := range insideEnds() {
			then, port, ok := impl.MapOut(m, e)
			wantM, wantPort, wantOk := wantOut(m, e)
			if port != wantPort || ok != wantOk || !slices.Equal(then, wantM) {
				t.Fatalf("MapOut of %v by %v is %v, %d, %v; want %v, %d, %v", e, m, then, port, ok, wantM, wantPort, wantOk)
			}
		}
		for _, text := range mapTexts() {
			then, out := wantTextOut(t, m, text)
			mustTextOut(t, m, text, then, out)
			mustTextIn(t, m, text, wantTextIn(t, m, text))
		}
	}
}

// All short texts, and all of fragments, by a map in which one port is left.
func TestMapTextsAsWritten(t *testing.T) {
	t.Parallel()
	m := mapOf(insideEnds()[20:]...)
	okTexts(func(text string) {
		then, out := wantTextOut(t, m, text)
		mustTextOut(t, m, text, then, out)
		mustTextIn(t, m, text, wantTextIn(t, m, text))
	})
}

func TestMapsThatAreNotOk(t *testing.T) {
	t.Parallel()
	for what, m := range wrongMaps() {
		if impl.MapOk(m) {
			t.Errorf("%s: MapOk(%.300v) is true", what, m)
			continue
		}
		for _, e := range slices.Concat(insideEnds(), notInside()) {
			mustOutFail(t, m, e, nil)
		}
		for port := -1; port <= 20; port++ {
			mustInFail(t, m, port)
		}
		for _, text := range []string{"", "abc", "@1:1;", "@9:10;", "@4:4;@9:11;x@1:2;@"} {
			mustTextOut(t, m, text, nil, "")
			mustTextIn(t, m, text, "")
		}
	}
}

func TestMapOfWrongEndsAndPorts(t *testing.T) {
	t.Parallel()
	for _, m := range okMaps() {
		for _, e := range notInside() {
			mustOutFail(t, m, e, nil)
		}
		for port := -20; port <= 120; port++ {
			if port < 10 || port >= 10+len(m) {
				mustInFail(t, m, port)
			}
		}
		for _, port := range []int{math.MinInt, math.MaxInt, 1<<8 + 10, 1<<16 + 10, 1<<32 + 10, 10 - 1<<32} {
			mustInFail(t, m, port)
		}
	}
}

func TestMapOfWrongTexts(t *testing.T) {
	t.Parallel()
	for _, m := range [][]impl.Pair{nil, mapOf(insideEnds()[:3]...), mapOf(insideEnds()[:8]...)} {
		for _, text := range wrongTexts() {
			mustTextOut(t, m, text, nil, "")
			mustTextIn(t, m, text, "")
		}
	}
}

// The empty list and the nil list are the same value.
func TestMapEmptyAndNil(t *testing.T) {
	t.Parallel()
	empty := make([]impl.Pair, 0, 4)
	if !impl.MapOk(nil) || !impl.MapOk(empty) {
		t.Error("the empty map is not ok")
	}
	for _, e := range slices.Concat(insideEnds(), notInside()) {
		a, portA, okA := impl.MapOut(nil, e)
		b, portB, okB := impl.MapOut(empty, e)
		if !slices.Equal(a, b) || portA != portB || okA != okB {
			t.Errorf("MapOut of %v by nil is %v, %d, %v, by the empty list %v, %d, %v", e, a, portA, okA, b, portB, okB)
		}
	}
	for _, text := range fewTexts() {
		a, outA := impl.MapTextOut(nil, text)
		mustTextOut(t, empty, text, a, outA)
		mustTextIn(t, empty, text, impl.MapTextIn(nil, text))
	}
}

// Nothing is written into an argument or behind its end, and no answer shares memory with it, or with another answer.
func TestMapAnswersAreNew(t *testing.T) {
	t.Parallel()
	e := insideEnds()
	mark := impl.Pair{Port: 77, Inside: impl.End{Addr: 7, Port: 7}}
	scribble := func(list []impl.Pair) {
		for i := range list[:cap(list)] {
			list[:cap(list)][i] = impl.Pair{Port: -1}
		}
	}
	for n := 0; n <= wantPorts; n++ {
		whole := append(mapOf(e[:n]...), slices.Repeat([]impl.Pair{mark}, 12-n)...)
		before := slices.Clone(whole)
		m := whole[:n]
		out := func(end impl.End) func() []impl.Pair {
			return func() []impl.Pair { then, _, _ := impl.MapOut(m, end); return then }
		}
		textOut := func(text string) func() []impl.Pair {
			return func() []impl.Pair { then, _ := impl.MapTextOut(m, text); return then }
		}
		for i, call := range []func() []impl.Pair{
			out(e[0]), out(e[8]), out(e[9]), out(impl.End{Addr: 4, Port: 4}),
			textOut(""), textOut("abc"), textOut(name(e[0])), textOut(name(e[8]) + name(e[9])), textOut("@"), textOut("A"),
		} {
			first, second := call(), call()
			want := slices.Clone(second)
			scribble(first)
			if !slices.Equal(second, want) {
				t.Errorf("call %d by %d pairs: two answers share memory", i, n)
			}
			if !slices.Equal(whole, before) {
				t.Fatalf("call %d by %d pairs: the argument is %v, was %v", i, n, whole, before)
			}
		}
		impl.MapOk(m)
		impl.MapIn(m, 10)
		impl.MapTextIn(m, "@9:10;@9:17;")
		if !slices.Equal(whole, before) {
			t.Fatalf("%d pairs: the argument is %v, was %v", n, whole, before)
		}
	}
}

// P18
func TestP18OutThenIn(t *testing.T) {
	t.Parallel()
	for _, m := range okMaps() {
		for _, e := range insideEnds() {
			then, port, ok := impl.MapOut(m, e)
			if !ok {
				continue
			}
			if got, ok := impl.MapIn(then, port); !ok || got != e {
				t.Fatalf("by %v %v has port %d, which stands for %v, %v", m, e, port, got, ok)
			}
			again, portAgain, okAgain := impl.MapOut(then, e)
			if !okAgain || portAgain != port {
				t.Fatalf("by %v %v has port %d, then %d, %v", m, e, port, portAgain, okAgain)
			}
			sameMap(t, "once more", again, then)
			if len(then) < len(m) || len(then) > len(m)+1 || !impl.MapOk(then) {
				t.Fatalf("behind MapOut of %v %v is %v", e, m, then)
			}
			sameMap(t, "those that were there", then[:len(m)], m)
		}
	}
}

// P19
func TestP19WhenNoneIsLeft(t *testing.T) {
	t.Parallel()
	for _, m := range okMaps() {
		for _, e := range insideEnds() {
			none := portOf(m, e) == 0 && len(m) == wantPorts
			then, port, ok := impl.MapOut(m, e)
			if ok == none {
				t.Fatalf("MapOut of %v by %v is %v", e, m, ok)
			}
			if none {
				mustOutFail(t, m, e, m)
			} else if port < 10 || port > 17 || !slices.Contains(then, impl.Pair{Port: port, Inside: e}) {
				t.Fatalf("MapOut of %v by %v is %v, %d", e, m, then, port)
			}
		}
	}
}

// P20
func TestP20InOfPairs(t *testing.T) {
	t.Parallel()
	for _, m := range okMaps() {
		for port := -5; port <= 40; port++ {
			want := endFor(m, port)
			if got, ok := impl.MapIn(m, port); ok != (want != impl.End{}) || got != want {
				t.Fatalf("MapIn of %d by %v is %v, %v; want %v", port, m, got, ok, want)
			}
		}
	}
}

// P21
func TestP21FirstPairs(t *testing.T) {
	t.Parallel()
	for _, m := range okMaps() {
		for n := 0; n <= len(m); n++ {
			if !impl.MapOk(m[:n]) {
				t.Fatalf("%v is not ok", m[:n])
			}
		}
		for i := range m {
			if i+1 < len(m) && impl.MapOk(slices.Delete(slices.Clone(m), i, i+1)) {
				t.Fatalf("%v is ok without pair %d", m, i)
			}
			for j := range m {
				twice := slices.Clone(m)
				twice[j].Inside = m[i].Inside
				if i != j && impl.MapOk(twice) {
					t.Fatalf("%v is ok", twice)
				}
			}
			if impl.MapOk(append(slices.Clone(m), impl.Pair{Port: 10 + len(m), Inside: m[i].Inside})) {
				t.Fatalf("%v is ok with %v once more", m, m[i].Inside)
			}
		}
	}
}

// eachText tells each ok map with each text, and how the text goes out by it.
func eachText(tell func(m []impl.Pair, text string, then []impl.Pair, out string)) {
	for _, m := range okMaps() {
		for _, text := range mapTexts() {
			then, out := impl.MapTextOut(m, text)
			tell(m, text, then, out)
		}
	}
}

// P22
func TestP22ThereAndBack(t *testing.T) {
	t.Parallel()
	eachText(func(m []impl.Pair, text string, then []impl.Pair, out string) {
		// What goes out may be too long to be a text; it has no pieces then, and nothing comes in.
		if slices.ContainsFunc(namedIn(t, text), isDoor) || !portsEnough(t, m, text) || len(out) >= 40 {
			return
		}
		mustTextIn(t, then, out+"x", unheld(text)+"x")
	})
	mustTextIn(t, mapOf(insideEnds()[:1]...), strings.Repeat("@9:10;", 8)+"x", "")
}

// P23
func TestP23NobodyInside(t *testing.T) {
	t.Parallel()
	eachText(func(m []impl.Pair, text string, then []impl.Pair, out string) {
		if !portsEnough(t, m, text) {
			return
		}
		if slices.ContainsFunc(namedIn(t, out), isInside) || slices.ContainsFunc(impl.TextNames(out), isInside) {
			t.Fatalf("by %v %q goes out as %q", m, text, out)
		}
	})
}

// P24
func TestP24PieceByPiece(t *testing.T) {
	t.Parallel()
	eachText(func(m []impl.Pair, text string, then []impl.Pair, out string) {
		at := 0
		for _, p := range impl.TextPieces(text) {
			at += p.Size
			middle, first := impl.MapTextOut(m, text[:at])
			end, others := impl.MapTextOut(middle, text[at:])
			// What of the first pieces alone may yet become a name is known by the others not to.
			held := text[at-wantHeld(text[:at]) : at]
			if first+held+others != out || !slices.Equal(end, then) {
				t.Fatalf("by %v %q, cut at %d, is %q, %q and %q, with %v; whole %q, with %v", m, text, at, first, held, others, end, out, then)
			}
		}
	})
}

// P25
func TestP25BytesStay(t *testing.T) {
	t.Parallel()
	eachText(func(m []impl.Pair, text string, then []impl.Pair, out string) {
		in := impl.MapTextIn(m, text)
		if len(impl.TextNames(text)) == 0 {
			if out != unheld(text) || in != unheld(text) {
				t.Fatalf("by %v %q goes out as %q, and comes in as %q", m, text, out, in)
			}
			sameMap(t, text, then, m)
		}
		bytes := anyName.ReplaceAllString(unheld(text), "|")
		for _, got := range []string{out, in} {
			if anyName.ReplaceAllString(got, "|") != bytes {
				t.Fatalf("by %v %q goes on as %q", m, text, got)
			}
		}
	})
}

// P26
func TestP26NobodyOfTheDoor(t *testing.T) {
	t.Parallel()
	for _, m := range okMaps() {
		for _, text := range mapTexts() {
			for _, e := range namedIn(t, impl.MapTextIn(m, text)) {
				if isDoor(e) && endFor(m, e.Port) != (impl.End{}) {
					t.Fatalf("by %v %q comes in as %q", m, text, impl.MapTextIn(m, text))
				}
			}
		}
	}
}

// P27
func TestP27OutOfOut(t *testing.T) {
	t.Parallel()
	eachText(func(m []impl.Pair, text string, then []impl.Pair, out string) {
		if portsEnough(t, m, text) && len(out) < 40 {
			mustTextOut(t, then, out+"x", then, out+"x")
		}
	})
}

// P28
func TestP28OutOnceMore(t *testing.T) {
	t.Parallel()
	eachText(func(m []impl.Pair, text string, then []impl.Pair, out string) {
		mustTextOut(t, then, text, then, out)
	})
}

// P29
func TestP29HowLong(t *testing.T) {
	t.Parallel()
	longest := 0
	eachText(func(m []impl.Pair, text string, then []impl.Pair, out string) {
		if !portsEnough(t, m, text) {
			return
		}
		want := len(text) - wantHeld(text)
		for _, e := range namedIn(t, unheld(text)) {
			if isInside(e) {
				want++
			}
		}
		if len(out) != want {
			t.Fatalf("by %v %q goes out as %q, of %d bytes, want %d", m, text, out, len(out), want)
		}
		longest = max(longest, len(out))
	})
	if longest != 48 {
		t.Errorf("the longest that goes out has %d bytes, want 48", longest)
	}
}

// P30
func TestP30OneMorePort(t *testing.T) {
	t.Parallel()
	for _, m := range okMaps() {
		if len(m) == wantPorts {
			continue
		}
		more := grow(t, m, furtherEnds(m)[0])
		for _, text := range mapTexts() {
			strange := func(e impl.End) bool { return isDoor(e) && endFor(m, e.Port) == impl.End{} }
			if !slices.ContainsFunc(namedIn(t, text), strange) {
				mustTextIn(t, more, text, impl.MapTextIn(m, text))
			}
		}
		last := name(impl.End{Addr: 9, Port: 10 + len(m)})
		mustTextIn(t, m, last, last)
		mustTextIn(t, more, last, name(furtherEnds(m)[0]))
	}
}

// P31
func TestP31UntilAllAreGiven(t *testing.T) {
	t.Parallel()
	for _, m := range okMaps() {
		then := m
		for i, e := range furtherEnds(m) {
			if len(m)+i >= wantPorts {
				mustOutFail(t, then, e, then)
				continue
			}
			next, port, ok := impl.MapOut(then, e)
			if !ok || port != 10+len(m)+i {
				t.Fatalf("MapOut of %v by %v is %d, %v", e, then, port, ok)
			}
			then = next
		}
		if len(then) != wantPorts || then[0].Port != 10 || then[7].Port != 17 {
			t.Errorf("in the end the map is %v", then)
		}
	}
}
