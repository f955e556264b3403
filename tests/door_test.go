package tests

import (
	"fmt"
	"slices"
	"strings"
	"testing"

	"loop.example/ostiary/impl"
)

// What the document says of the door, written a second time, by other means than the program's: lists that are searched,
// and the document's own words on what goes on, one by one.

const wantFlows = 4

var insideSet, outsideSet, doorSet = setOf(insideEnds()), setOf(outsideEnds()), setOf(doorEnds())

func wantMapOk(m []impl.Pair) bool {
	var ends []impl.End
	for _, p := range m {
		if !insideSet[p.Inside] || slices.Contains(ends, p.Inside) {
			return false
		}
		ends = append(ends, p.Inside)
	}
	return len(ends) <= wantPorts && slices.Equal(m, mapOf(ends...))
}

func wantDoorOk(d impl.Door) bool {
	if !wantMapOk(d.Map) || len(d.Flows) > wantFlows {
		return false
	}
	seen := map[[2]impl.End]bool{}
	for _, f := range d.Flows {
		two := [2]impl.End{f.Inside, f.Outside}
		if seen[two] || portOf(d.Map, f.Inside) == 0 || !outsideSet[f.Outside] || !wantStreamOk(f.Up) || !wantStreamOk(f.Down) {
			return false
		}
		seen[two] = true
	}
	return true
}

// crossing is what a call of the door tells.
type crossing struct {
	d  impl.Door
	p  impl.Pkt
	ok bool
}

func doorOut(d impl.Door, p impl.Pkt) crossing {
	then, on, ok := impl.DoorOut(d, p)
	return crossing{then, on, ok}
}

func doorIn(d impl.Door, p impl.Pkt) crossing {
	then, on, ok := impl.DoorIn(d, p)
	return crossing{then, on, ok}
}

func doorPass(d impl.Door, p impl.Pkt) crossing {
	then, on, ok := impl.DoorPass(d, p)
	return crossing{then, on, ok}
}

func equalFlows(a, b impl.Flow) bool {
	return a.Inside == b.Inside && a.Outside == b.Outside && equalStreams(a.Up, b.Up) && equalStreams(a.Down, b.Down)
}

func equalDoors(a, b impl.Door) bool {
	return slices.Equal(a.Map, b.Map) && slices.EqualFunc(a.Flows, b.Flows, equalFlows)
}

func (c crossing) is(b crossing) bool {
	return c.ok == b.ok && c.p == b.p && equalDoors(c.d, b.d)
}

// toldDoor is short where a door is huge.
func toldDoor(d impl.Door) string {
	all := ""
	for i, p := range d.Map {
		if i == 10 {
			all += ".. "
			break
		}
		all += fmt.Sprintf("%d=%d:%d ", p.Port, p.Inside.Addr, p.Inside.Port)
	}
	for i, f := range d.Flows {
		if i == 6 {
			return all + ".."
		}
		all += fmt.Sprintf("/ %d:%d %d:%d up %.60s=%.60s down %.60s=%.60s ", f.Inside.Addr, f.Inside.Port, f.Outside.Addr, f.Outside.Port, f.Up.In, textOf(f.Up.Parts), f.Down.In, textOf(f.Down.Parts))
	}
	return strings.TrimSpace(all)
}

func mustCross(t *testing.T, what string, d impl.Door, p impl.Pkt, got, want crossing) {
	t.Helper()
	if !got.is(want) {
		t.Fatalf("%s by [%s] of %s: got [%s], %s, %v; want [%s], %s, %v", what, toldDoor(d), toldPkt(p), toldDoor(got.d), toldPkt(got.p), got.ok, toldDoor(want.d), toldPkt(want.p), want.ok)
	}
}

// isOut and isIn say whether a packet is of such ends.
func isOut(p impl.Pkt) bool { return insideSet[p.From] && outsideSet[p.To] }
func isIn(p impl.Pkt) bool  { return outsideSet[p.From] && doorSet[p.To] }

func flowAt(d impl.Door, inside, outside impl.End) int {
	return slices.IndexFunc(d.Flows, func(f impl.Flow) bool { return f.Inside == inside && f.Outside == outside })
}

// wantOn is what goes on of data, by the stream as it was, and as it is behind StreamPut.
func wantOn(was, then impl.Stream, p impl.Pkt) (int, string, bool) {
	all := textOf(then.Parts)
	begin, end := wantFor(then, p.At), len(all)
	if then.In == was.In {
		end = wantFor(then, min(p.At+len(p.Text), len(then.In)))
	}
	text := all[begin:end]
	return begin, text, len(text) >= 1 && len(text) <= 40
}

// wantThrough is what comes of a packet in form, of a flow of the door, between these ends.
func wantThrough(t *testing.T, d impl.Door, at int, p impl.Pkt, from, to impl.End) crossing {
	t.Helper()
	d = impl.Door{Map: d.Map, Flows: slices.Clone(d.Flows)}
	f := &d.Flows[at]
	said, other := &f.Up, f.Down
	if isIn(p) {
		said, other = &f.Down, f.Up
	}
	if p.Kind == 2 {
		if p.At > len(textOf(other.Parts)) {
			return crossing{d, impl.Pkt{}, false}
		}
		return crossing{d, impl.Pkt{Kind: 2, From: from, To: to, At: wantBack(other, p.At)}, true}
	}
	if p.At > 40 {
		return crossing{d, impl.Pkt{}, false}
	}
	was := *said
	then, s, put := wantPut(t, d.Map, was, p.At, p.Text, isOut(p))
	d.Map, *said = then, s
	if !put {
		return crossing{d, impl.Pkt{}, false}
	}
	begin, text, ok := wantOn(was, s, p)
	if !ok {
		return crossing{d, impl.Pkt{}, false}
	}
	return crossing{d, impl.Pkt{Kind: 1, From: from, To: to, At: begin, Text: text}, true}
}

func wantDoorOut(t *testing.T, d impl.Door, p impl.Pkt) crossing {
	t.Helper()
	if !wantDoorOk(d) || !wantPktOk(p) || !isOut(p) {
		return crossing{}
	}
	at := flowAt(d, p.From, p.To)
	if at < 0 {
		m, _, given := wantOut(d.Map, p.From)
		if !given || len(d.Flows) >= wantFlows {
			return crossing{d, impl.Pkt{}, false}
		}
		at = len(d.Flows)
		d = impl.Door{Map: m, Flows: append(slices.Clone(d.Flows), impl.Flow{Inside: p.From, Outside: p.To})}
	}
	return wantThrough(t, d, at, p, impl.End{Addr: 9, Port: portOf(d.Map, p.From)}, p.To)
}

func wantDoorIn(t *testing.T, d impl.Door, p impl.Pkt) crossing {
	t.Helper()
	if !wantDoorOk(d) || !wantPktOk(p) || !isIn(p) {
		return crossing{}
	}
	inside := endFor(d.Map, p.To.Port)
	at := flowAt(d, inside, p.From)
	if at < 0 {
		return crossing{d, impl.Pkt{}, false}
	}
	return wantThrough(t, d, at, p, p.From, inside)
}

func wantPass(t *testing.T, d impl.Door, p impl.Pkt) crossing {
	t.Helper()
	if !wantDoorOk(d) || !wantPktOk(p) {
		return crossing{}
	}
	if isOut(p) {
		return wantDoorOut(t, d, p)
	}
	if isIn(p) {
		return wantDoorIn(t, d, p)
	}
	return crossing{d, impl.Pkt{}, false}
}

// mustBeAsWritten asks all three of a door and a packet, and tells what comes of it.
func mustBeAsWritten(t *testing.T, d impl.Door, p impl.Pkt) crossing {
	t.Helper()
	mustCross(t, "DoorOut", d, p, doorOut(d, p), wantDoorOut(t, d, p))
	mustCross(t, "DoorIn", d, p, doorIn(d, p), wantDoorIn(t, d, p))
	want := wantPass(t, d, p)
	mustCross(t, "DoorPass", d, p, doorPass(d, p), want)
	return want
}

// pktOf is the packet of a text that must be one.
func pktOf(t *testing.T, text string) impl.Pkt {
	t.Helper()
	p, ok := wantPktRead(t, text)
	if !ok {
		t.Fatalf("%q is no packet's", text)
	}
	return p
}

// said is what was said, both ways, between two ends.
type said struct {
	inside, outside string
	up, down        string
}

// doorOf is a door by a map, or one that gave more ports, through which all that went.
func doorOf(t *testing.T, m []impl.Pair, all ...said) impl.Door {
	t.Helper()
	d := impl.Door{Map: m}
	for _, s := range all {
		f := impl.Flow{Inside: endNamed(t, s.inside), Outside: endNamed(t, s.outside)}
		then, _, given := wantOut(d.Map, f.Inside)
		if !given {
			t.Fatalf("no port for %s", s.inside)
		}
		d.Map = then
		d.Map, f.Up, _ = wantPut(t, d.Map, impl.Stream{}, 0, s.up, true)
		_, f.Down, _ = wantPut(t, d.Map, impl.Stream{}, 0, s.down, false)
		d.Flows = append(d.Flows, f)
	}
	return d
}

// strangeDoor is a door whose streams went on in no way that the program would choose now.
func strangeDoor(t *testing.T, m []impl.Pair, all ...said) impl.Door {
	t.Helper()
	d := doorOf(t, m, all...)
	for i := range d.Flows {
		d.Flows[i].Up, d.Flows[i].Down = strange(all[i].up, i), strange(all[i].down, i+3)
	}
	return d
}

// okDoors is doors without flows, with some, with FlowMax of them; with no port, some, all but one, and all;
// whose streams are empty, hold something, name each side, and are as long as can be.
func okDoors(t *testing.T) []impl.Door {
	t.Helper()
	e := insideEnds()
	a39, a40 := strings.Repeat("a", 39), strings.Repeat("a", 40)
	eight := strings.Repeat("@1:1;", 8)
	return []impl.Door{
		{},
		{Map: mapOf(e[26], e[0], e[5])},
		{Map: mapOf(e[19:26]...)},
		{Map: mapOf(e[10:18]...)},
		doorOf(t, nil, said{"1:1", "4:4", "", ""}),
		doorOf(t, nil, said{"1:1", "4:4", "hi@2:2;ab", "@9:11;c@9:10;"}),
		doorOf(t, mapOf(e[3:6]...), said{"1:1", "4:4", "ab@1:", "@9:10;@9:1"}),
		doorOf(t, mapOf(e[3:10]...), said{"1:5", "6:9", "@2:9;@3:9", "@9:17;@"}),
		doorOf(t, mapOf(e[:8]...), said{"1:8", "4:1", "@2:2;x@1:8;@1", "@9:17;@9:1"}, said{"1:1", "4:1", "", "x"}),
		doorOf(t, nil, said{"1:1", "4:4", "a", "b"}, said{"1:1", "5:5", "@1:2;@", ""}, said{"1:2", "4:4", "", "@9:11;@9:12;"}),
		doorOf(t, nil, said{"1:1", "4:4", "a@3:3;", "b@9:1"}, said{"3:9", "4:4", "@1:1;c@3:", "d"}, said{"1:1", "6:1", "", ""}, said{"2:5", "6:9", "@2:5;", "@9:12;@9:10;"}),
		doorOf(t, mapOf(e[:8]...), said{"1:1", "4:4", "@3:3;@1:9", ""}, said{"1:2", "4:4", "", "@9:17"}, said{"1:3", "4:4", "", ""}, said{"1:4", "4:4", "z", "z"}),
		doorOf(t, nil, said{"1:1", "4:4", a39, a40}, said{"1:2", "4:4", a40, a39}),
		doorOf(t, nil, said{"1:1", "4:4", eight, strings.Repeat("@9:10;", 6) + "@9:1"}, said{"1:2", "5:1", eight[:39], strings.Repeat("@9:11;", 6)}),
		doorOf(t, nil, said{"1:1", "4:4", eight[:30] + "abc", "@9:10;@9:11;"}, said{"2:1", "4:4", "@2:2;@2:3;@2:4;@2:5;@2:6;@2:7;@2:8;@2:", ""}),
		strangeDoor(t, mapOf(e[5:8]...), said{"1:1", "4:4", "ab@1:1;@9:10;c@9:1", "x@9:11;y@"}, said{"1:7", "5:5", "@1", "@1:1"}),
		strangeDoor(t, nil, said{"1:1", "4:4", a40, a39}, said{"1:2", "4:4", eight, eight}),
	}
}

// doorTexts is what is said through those doors.
var doorTexts = []string{"a", "@", ":7;", "1:1;", "0;", "@3:8;@3:9;", "@9:10;@9:17;", "a@4:4;@1", "5;@9:11;b@1:", "@@1:2;;", strings.Repeat("@2:2;", 3) + "@", strings.Repeat("@1:1;", 6) + "abcd", strings.Repeat("@1:1;", 6) + "abcde", strings.Repeat("b", 40)}

// flowPkts tells packets of both kinds, both ways, between the ends of each flow of a door, with each of some texts, from each of some places on.
func flowPkts(d impl.Door, places []int, texts []string, tell func(p impl.Pkt)) {
	for _, f := range d.Flows {
		port := impl.End{Addr: 9, Port: portOf(d.Map, f.Inside)}
		for _, two := range [][2]impl.End{{f.Inside, f.Outside}, {f.Outside, port}} {
			for _, at := range places {
				tell(impl.Pkt{Kind: 2, From: two[0], To: two[1], At: at})
				for _, text := range texts {
					tell(impl.Pkt{Kind: 1, From: two[0], To: two[1], At: at, Text: text})
				}
			}
		}
	}
}

// edgesOf is the places about what came, and what went on, of the streams of a flow: none, the midst, the end, and one more.
func edgesOf(d impl.Door) []int {
	all := []int{0, 1, 2, 39, 40, 41, 98, 99}
	for _, f := range d.Flows {
		for _, s := range []impl.Stream{f.Up, f.Down} {
			in, out := len(s.In), len(textOf(s.Parts))
			all = append(all, in/2, in-1, in, in+1, out/2, out-5, out-1, out, out+1)
		}
	}
	slices.Sort(all)
	return slices.DeleteFunc(slices.Compact(all), func(at int) bool { return at < 0 || at > 99 })
}

// otherPkts tells packets of such ends that are mostly of no flow: out from who has a port, or none; in from who was called, or a stranger, to each port.
func otherPkts(d impl.Door, tell func(p impl.Pkt)) {
	outside := []impl.End{{Addr: 4, Port: 4}, {Addr: 5, Port: 1}, {Addr: 6, Port: 9}}
	var twos [][2]impl.End
	for i, in := range insideEnds() {
		twos = append(twos, [2]impl.End{in, outside[i%3]}, [2]impl.End{in, outside[(i+1)%3]})
	}
	for i, port := range doorEnds() {
		twos = append(twos, [2]impl.End{outside[i%3], port}, [2]impl.End{outside[(i+1)%3], port})
	}
	for _, two := range twos {
		for _, at := range []int{0, 1, 40, 99} {
			tell(impl.Pkt{Kind: 2, From: two[0], To: two[1], At: at})
			for _, text := range []string{"a", "@2:2;x@3:", "@9:10;@3:9;"} {
				tell(impl.Pkt{Kind: 1, From: two[0], To: two[1], At: at, Text: text})
			}
		}
	}
}

// eachCrossing tells those doors, each with packets of its flows, about the edges, and with others.
func eachCrossing(t *testing.T, tell func(d impl.Door, p impl.Pkt)) {
	t.Helper()
	texts := []string{"a", "@", ":7;", "@2:2;", "a@9:10;@1", "1;@9:11;b@1:", strings.Repeat("@1:1;", 6) + "abcde", strings.Repeat("b", 40)}
	for _, d := range okDoors(t) {
		one := func(p impl.Pkt) { tell(d, p) }
		flowPkts(d, edgesOf(d), texts, one)
		otherPkts(d, one)
	}
}

// turns is the same numbers each time, though in no plain order.
type turns uint32

func (n *turns) below(many int) int {
	*n = *n*1664525 + 1013904223
	return int(uint32(*n)>>8) % many
}

// eachPlay tells each packet of many plays, from a door without anything on, with the door that there is then: two ends inside and two outside
// say texts piece by piece, lost, twice and out of turn, both ways, acks between, and to ports that are none's too. Those inside name
// one another, and so many ends inside more.
func eachPlay(t *testing.T, named int, tell func(d impl.Door, p impl.Pkt)) {
	t.Helper()
	ends := insideEnds()
	for play := range 60 {
		n := turns(play)
		d := impl.Door{}
		callers := []impl.End{ends[play%27], ends[(play+5)%27]}
		called := []impl.End{{Addr: 4, Port: 4}, {Addr: 6, Port: 1 + play%9}}
		texts := map[[2]impl.End]string{}
		for range 60 {
			in, out := callers[n.below(2)], called[n.below(2)]
			two, up := [2]impl.End{in, out}, n.below(2) == 0
			if !up {
				two = [2]impl.End{out, in}
			}
			for len(texts[two]) < 40 {
				more := []string{"a", "@", "b@1", name(ends[(play+5*n.below(named+2))%27]), name(ends[(play+5*n.below(named+2))%27]), name(doorEnds()[n.below(3)]), name(doorEnds()[n.below(8)]), name(out)}
				texts[two] += more[n.below(len(more))]
			}
			came := impl.Stream{}
			if i := flowAt(d, in, out); i >= 0 && up {
				came = d.Flows[i].Up
			} else if i >= 0 {
				came = d.Flows[i].Down
			}
			p := impl.Pkt{Kind: 2, From: in, To: out, At: n.below(20)}
			if n.below(4) > 0 {
				at := max(0, min(39, len(came.In)+[]int{0, 0, 0, -1, -3, -9, 2}[n.below(7)]))
				p.Kind, p.At, p.Text = 1, at, texts[two][at:min(40, at+1+n.below(12))]
			}
			if port := portOf(d.Map, in); !up && port != 0 && n.below(8) > 0 {
				p.From, p.To = out, impl.End{Addr: 9, Port: port}
			} else if !up {
				p.From, p.To = out, doorEnds()[n.below(8)]
			}
			tell(d, p)
			d = wantPass(t, d, p).d
		}
	}
}

// eachPass tells the doors and packets of both, and what DoorPass tells of them.
func eachPass(t *testing.T, tell func(d impl.Door, p impl.Pkt, then crossing)) {
	t.Helper()
	one := func(d impl.Door, p impl.Pkt) { tell(d, p, doorPass(d, p)) }
	eachCrossing(t, one)
	eachPlay(t, 3, one)
}

// wrongDoors is doors that are not ok, each in one way, that would let packets through between 1:1 and 4:4 were they ok, if they can have such a flow.
func wrongDoors(t *testing.T) map[string]impl.Door {
	t.Helper()
	good := func() impl.Door {
		return doorOf(t, nil, said{"1:1", "4:4", "ab@1:1;", "x@9:10;"}, said{"1:2", "4:4", "", ""}, said{"1:1", "5:5", "a", "b"})
	}
	changed := func(at int, change func(f *impl.Flow)) impl.Door {
		d := good()
		change(&d.Flows[at])
		return d
	}
	e := func(addr, port int) impl.End { return impl.End{Addr: addr, Port: port} }
	flow := good().Flows[0]
	wrong := map[string]impl.Door{
		"one flow too many":         doorOf(t, nil, said{"1:1", "4:4", "", ""}, said{"1:1", "4:5", "", ""}, said{"1:2", "4:4", "", ""}, said{"1:3", "4:4", "", ""}, said{"1:4", "4:4", "", ""}),
		"one too many of one end":   doorOf(t, nil, said{"1:1", "4:4", "", ""}, said{"1:1", "4:5", "", ""}, said{"1:1", "4:6", "", ""}, said{"1:1", "4:7", "", ""}, said{"1:1", "4:8", "", ""}),
		"far too many flows":        {Map: good().Map, Flows: slices.Repeat(good().Flows, 20000)},
		"a flow twice":              {Map: good().Map, Flows: []impl.Flow{flow, flow}},
		"a flow twice, apart":       {Map: good().Map, Flows: []impl.Flow{flow, good().Flows[1], flow}},
		"a flow twice, in the end":  {Map: good().Map, Flows: []impl.Flow{good().Flows[1], flow, flow}},
		"two of the same, one said": {Map: good().Map, Flows: []impl.Flow{flow, {Inside: flow.Inside, Outside: flow.Outside}}},
		"four times the same":       {Map: good().Map, Flows: slices.Repeat([]impl.Flow{flow}, 4)},
		"no ports":                  {Flows: good().Flows[:1]},
		"no ports, an empty flow":   {Flows: []impl.Flow{{Inside: e(1, 1), Outside: e(4, 4)}}},
		"a port too few":            {Map: good().Map[:1], Flows: good().Flows[:2]},
		"a port for another":        {Map: mapOf(e(1, 2), e(1, 3)), Flows: good().Flows[:1]},
		"all ports for others":      {Map: mapOf(insideEnds()[1:9]...), Flows: good().Flows[:1]},
		"nothing in the flow":       {Map: good().Map, Flows: append(good().Flows, impl.Flow{})},
		"nothing in it, no ports":   {Flows: []impl.Flow{{}}},
		"exchanged ends":            {Map: good().Map, Flows: []impl.Flow{{Inside: e(4, 4), Outside: e(1, 1)}}},
	}
	for what, m := range wrongMaps() {
		wrong["map, no flow: "+what] = impl.Door{Map: m}
		wrong["map: "+what] = impl.Door{Map: m, Flows: good().Flows[:1]}
	}
	for at := range 3 {
		for what, end := range map[string]impl.End{"without a port": e(1, 3), "of no side": e(7, 7), "that is nothing": {}, "outside": e(4, 4), "of the door": e(9, 10), "with a door's port": e(1, 10), "with too great a port": e(1, 1<<32+1)} {
			wrong[fmt.Sprintf("flow %d of an end inside %s", at, what)] = changed(at, func(f *impl.Flow) { f.Inside = end })
		}
		for what, end := range map[string]impl.End{"inside": e(1, 2), "of the door": e(9, 10), "of no side": e(7, 7), "that is nothing": {}, "with no port": e(4, 0), "with a door's port": e(4, 10), "with too great an address": e(1<<32+4, 4)} {
			wrong[fmt.Sprintf("flow %d of an end outside %s", at, what)] = changed(at, func(f *impl.Flow) { f.Outside = end })
		}
		for what, s := range wrongStreams() {
			wrong[fmt.Sprintf("flow %d, up: %s", at, what)] = changed(at, func(f *impl.Flow) { f.Up = s })
			wrong[fmt.Sprintf("flow %d, down: %s", at, what)] = changed(at, func(f *impl.Flow) { f.Down = s })
		}
	}
	return wrong
}

// step is a packet, what goes on of it, if anything does, and how the door is then.
type step struct {
	p, on, then string
}

func mustPlay(t *testing.T, d impl.Door, steps []step) {
	t.Helper()
	for _, s := range steps {
		p := pktOf(t, s.p)
		got := doorPass(d, p)
		if on := impl.PktText(got.p); on != s.on || got.ok != (s.on != "") || toldDoor(got.d) != s.then || !impl.DoorOk(got.d) {
			t.Fatalf("DoorPass by [%s] of %q: got [%s], %s, %v; want [%s], %q", toldDoor(d), s.p, toldDoor(got.d), toldPkt(got.p), got.ok, s.then, s.on)
		}
		mustBeAsWritten(t, d, p)
		d = got.d
	}
}

func TestFlowMax(t *testing.T) {
	t.Parallel()
	if impl.FlowMax != 4 {
		t.Errorf("FlowMax is %d", impl.FlowMax)
	}
}

func TestDoorEdges(t *testing.T) {
	t.Parallel()
	mustPlay(t, impl.Door{}, []step{
		// Nobody comes in ahead of being called, nor a stranger, nor to another port.
		{"data 4:4 9:10 0 a", "", ""},
		{"ack 4:4 9:10 0", "", ""},
		{"data 1:1 4:4 0 hi@2:2;", "data 9:10 4:4 0 hi@9:11;", "10=1:1 11=2:2 / 1:1 4:4 up hi@2:2;=hi@9:11; down ="},
		{"data 5:4 9:10 0 a", "", "10=1:1 11=2:2 / 1:1 4:4 up hi@2:2;=hi@9:11; down ="},
		{"data 4:4 9:11 0 a", "", "10=1:1 11=2:2 / 1:1 4:4 up hi@2:2;=hi@9:11; down ="},
		{"data 4:4 9:12 0 a", "", "10=1:1 11=2:2 / 1:1 4:4 up hi@2:2;=hi@9:11; down ="},
		{"ack 4:4 9:17 0", "", "10=1:1 11=2:2 / 1:1 4:4 up hi@2:2;=hi@9:11; down ="},
		{"ack 5:4 9:10 0", "", "10=1:1 11=2:2 / 1:1 4:4 up hi@2:2;=hi@9:11; down ="},
		// Acks: of nothing, in the midst of a name, of all, of one more.
		{"ack 4:4 9:10 0", "ack 4:4 1:1 0", "10=1:1 11=2:2 / 1:1 4:4 up hi@2:2;=hi@9:11; down ="},
		{"ack 4:4 9:10 1", "ack 4:4 1:1 1", "10=1:1 11=2:2 / 1:1 4:4 up hi@2:2;=hi@9:11; down ="},
		{"ack 4:4 9:10 7", "ack 4:4 1:1 2", "10=1:1 11=2:2 / 1:1 4:4 up hi@2:2;=hi@9:11; down ="},
		{"ack 4:4 9:10 8", "ack 4:4 1:1 7", "10=1:1 11=2:2 / 1:1 4:4 up hi@2:2;=hi@9:11; down ="},
		{"ack 4:4 9:10 9", "", "10=1:1 11=2:2 / 1:1 4:4 up hi@2:2;=hi@9:11; down ="},
		{"ack 1:1 4:4 0", "ack 9:10 4:4 0", "10=1:1 11=2:2 / 1:1 4:4 up hi@2:2;=hi@9:11; down ="},
		{"ack 1:1 4:4 1", "", "10=1:1 11=2:2 / 1:1 4:4 up hi@2:2;=hi@9:11; down ="},
		// A name from outside comes in as the end inside; none is given a port.
		{"data 4:4 9:10 0 @9:11;@9:12;@3:3;", "data 4:4 1:1 0 @2:2;@9:12;@3:3;", "10=1:1 11=2:2 / 1:1 4:4 up hi@2:2;=hi@9:11; down @9:11;@9:12;@3:3;=@2:2;@9:12;@3:3;"},
		{"ack 1:1 4:4 5", "ack 9:10 4:4 6", "10=1:1 11=2:2 / 1:1 4:4 up hi@2:2;=hi@9:11; down @9:11;@9:12;@3:3;=@2:2;@9:12;@3:3;"},
		{"ack 1:1 4:4 4", "ack 9:10 4:4 0", "10=1:1 11=2:2 / 1:1 4:4 up hi@2:2;=hi@9:11; down @9:11;@9:12;@3:3;=@2:2;@9:12;@3:3;"},
		{"ack 1:1 4:4 16", "ack 9:10 4:4 17", "10=1:1 11=2:2 / 1:1 4:4 up hi@2:2;=hi@9:11; down @9:11;@9:12;@3:3;=@2:2;@9:12;@3:3;"},
		{"ack 1:1 4:4 17", "", "10=1:1 11=2:2 / 1:1 4:4 up hi@2:2;=hi@9:11; down @9:11;@9:12;@3:3;=@2:2;@9:12;@3:3;"},
		// The one who was named did not call yet; the port is the one that stands for that end already.
		{"data 2:2 4:4 0 a", "data 9:11 4:4 0 a", "10=1:1 11=2:2 / 1:1 4:4 up hi@2:2;=hi@9:11; down @9:11;@9:12;@3:3;=@2:2;@9:12;@3:3; / 2:2 4:4 up a=a down ="},
		{"data 4:4 9:11 0 a", "data 4:4 2:2 0 a", "10=1:1 11=2:2 / 1:1 4:4 up hi@2:2;=hi@9:11; down @9:11;@9:12;@3:3;=@2:2;@9:12;@3:3; / 2:2 4:4 up a=a down a=a"},
	})
}

func TestDoorEdgesOfData(t *testing.T) {
	t.Parallel()
	mustPlay(t, impl.Door{}, []step{
		// From ahead of what may come the flow is opened, and nothing else; so of a place that no stream has.
		{"data 1:1 4:4 1 a", "", "10=1:1 / 1:1 4:4 up = down ="},
		{"data 1:1 4:4 40 a", "", "10=1:1 / 1:1 4:4 up = down ="},
		{"data 1:1 4:4 41 a", "", "10=1:1 / 1:1 4:4 up = down ="},
		{"data 1:1 4:4 99 a", "", "10=1:1 / 1:1 4:4 up = down ="},
		// What is held does not go out; what is ahead of it does.
		{"data 1:1 4:4 0 @", "", "10=1:1 / 1:1 4:4 up @= down ="},
		{"data 1:1 4:4 1 1", "", "10=1:1 / 1:1 4:4 up @1= down ="},
		// With more it does, though of this packet just what is from its place on: the bytes ahead go out when they are said again.
		{"data 1:1 4:4 2 a", "data 9:10 4:4 2 a", "10=1:1 / 1:1 4:4 up @1a=@1a down ="},
		{"data 1:1 4:4 0 @1", "data 9:10 4:4 0 @1", "10=1:1 / 1:1 4:4 up @1a=@1a down ="},
		{"data 1:1 4:4 3 b@1:", "data 9:10 4:4 3 b", "10=1:1 / 1:1 4:4 up @1ab@1:=@1ab down ="},
		{"data 1:1 4:4 7 1;c", "data 9:10 4:4 4 @9:10;c", "10=1:1 / 1:1 4:4 up @1ab@1:1;c=@1ab@9:10;c down ="},
		// Nothing new: of all, of some, of a name from its midst on, or to its midst, of a name alone, of no whole piece.
		{"data 1:1 4:4 0 @1ab@1:1;c", "data 9:10 4:4 0 @1ab@9:10;c", "10=1:1 / 1:1 4:4 up @1ab@1:1;c=@1ab@9:10;c down ="},
		{"data 1:1 4:4 1 1a", "data 9:10 4:4 1 1a", "10=1:1 / 1:1 4:4 up @1ab@1:1;c=@1ab@9:10;c down ="},
		{"data 1:1 4:4 3 b@1", "data 9:10 4:4 3 b", "10=1:1 / 1:1 4:4 up @1ab@1:1;c=@1ab@9:10;c down ="},
		{"data 1:1 4:4 6 :1;", "data 9:10 4:4 4 @9:10;", "10=1:1 / 1:1 4:4 up @1ab@1:1;c=@1ab@9:10;c down ="},
		{"data 1:1 4:4 6 :1;c", "data 9:10 4:4 4 @9:10;c", "10=1:1 / 1:1 4:4 up @1ab@1:1;c=@1ab@9:10;c down ="},
		{"data 1:1 4:4 4 @1:1;", "data 9:10 4:4 4 @9:10;", "10=1:1 / 1:1 4:4 up @1ab@1:1;c=@1ab@9:10;c down ="},
		{"data 1:1 4:4 4 @1:1", "", "10=1:1 / 1:1 4:4 up @1ab@1:1;c=@1ab@9:10;c down ="},
		{"data 1:1 4:4 5 1:1", "", "10=1:1 / 1:1 4:4 up @1ab@1:1;c=@1ab@9:10;c down ="},
		{"data 1:1 4:4 0 zzz", "data 9:10 4:4 0 @1a", "10=1:1 / 1:1 4:4 up @1ab@1:1;c=@1ab@9:10;c down ="},
		// Some new.
		{"data 1:1 4:4 8 zzd", "data 9:10 4:4 4 @9:10;cd", "10=1:1 / 1:1 4:4 up @1ab@1:1;cd=@1ab@9:10;cd down ="},
		{"data 1:1 4:4 10 zz@2", "data 9:10 4:4 11 dz", "10=1:1 / 1:1 4:4 up @1ab@1:1;cdz@2=@1ab@9:10;cdz down ="},
		{"data 1:1 4:4 12 @2:2;", "data 9:10 4:4 13 @9:11;", "10=1:1 11=2:2 / 1:1 4:4 up @1ab@1:1;cdz@2:2;=@1ab@9:10;cdz@9:11; down ="},
		{"data 1:1 4:4 12 @2:2;", "data 9:10 4:4 13 @9:11;", "10=1:1 11=2:2 / 1:1 4:4 up @1ab@1:1;cdz@2:2;=@1ab@9:10;cdz@9:11; down ="},
		// From the end of what came, one behind it, and more than there is room for.
		{"data 1:1 4:4 18 a", "", "10=1:1 11=2:2 / 1:1 4:4 up @1ab@1:1;cdz@2:2;=@1ab@9:10;cdz@9:11; down ="},
		{"data 1:1 4:4 17 abcdefghijklmnopqrstuvwx", "", "10=1:1 11=2:2 / 1:1 4:4 up @1ab@1:1;cdz@2:2;=@1ab@9:10;cdz@9:11; down ="},
		{"data 1:1 4:4 16 ;abcdefghijklmnopqrstuvwx", "", "10=1:1 11=2:2 / 1:1 4:4 up @1ab@1:1;cdz@2:2;=@1ab@9:10;cdz@9:11; down ="},
		{"data 1:1 4:4 17 abcdefghijklmnopqrstuvw", "data 9:10 4:4 19 abcdefghijklmnopqrstuvw", "10=1:1 11=2:2 / 1:1 4:4 up @1ab@1:1;cdz@2:2;abcdefghijklmnopqrstuvw=@1ab@9:10;cdz@9:11;abcdefghijklmnopqrstuvw down ="},
		{"data 1:1 4:4 40 a", "", "10=1:1 11=2:2 / 1:1 4:4 up @1ab@1:1;cdz@2:2;abcdefghijklmnopqrstuvw=@1ab@9:10;cdz@9:11;abcdefghijklmnopqrstuvw down ="},
		// What came in is held, and comes to an end, likewise.
		{"data 4:4 9:10 0 x@9:1", "data 4:4 1:1 0 x", "10=1:1 11=2:2 / 1:1 4:4 up @1ab@1:1;cdz@2:2;abcdefghijklmnopqrstuvw=@1ab@9:10;cdz@9:11;abcdefghijklmnopqrstuvw down x@9:1=x"},
		{"data 4:4 9:10 5 1;y", "data 4:4 1:1 1 @2:2;y", "10=1:1 11=2:2 / 1:1 4:4 up @1ab@1:1;cdz@2:2;abcdefghijklmnopqrstuvw=@1ab@9:10;cdz@9:11;abcdefghijklmnopqrstuvw down x@9:11;y=x@2:2;y"},
		{"data 4:4 9:10 4 1", "", "10=1:1 11=2:2 / 1:1 4:4 up @1ab@1:1;cdz@2:2;abcdefghijklmnopqrstuvw=@1ab@9:10;cdz@9:11;abcdefghijklmnopqrstuvw down x@9:11;y=x@2:2;y"},
		{"data 4:4 9:10 8 z", "data 4:4 1:1 7 z", "10=1:1 11=2:2 / 1:1 4:4 up @1ab@1:1;cdz@2:2;abcdefghijklmnopqrstuvw=@1ab@9:10;cdz@9:11;abcdefghijklmnopqrstuvw down x@9:11;yz=x@2:2;yz"},
		{"data 4:4 9:10 10 z", "", "10=1:1 11=2:2 / 1:1 4:4 up @1ab@1:1;cdz@2:2;abcdefghijklmnopqrstuvw=@1ab@9:10;cdz@9:11;abcdefghijklmnopqrstuvw down x@9:11;yz=x@2:2;yz"},
	})
}

// What goes on that is as long as a text may be goes on; one byte more, and it does not, though it came.
func TestDoorEdgesOfLength(t *testing.T) {
	t.Parallel()
	six, door := strings.Repeat("@1:1;", 6), strings.Repeat("@9:10;", 6)
	mustPlay(t, impl.Door{}, []step{
		{"data 1:1 4:4 0 " + six + "abcd", "data 9:10 4:4 0 " + door + "abcd", "10=1:1 / 1:1 4:4 up " + six + "abcd=" + door + "abcd down ="},
		{"data 1:1 4:4 0 " + six + "abcde", "", "10=1:1 / 1:1 4:4 up " + six + "abcde=" + door + "abcde down ="},
		{"data 1:1 4:4 0 " + six + "abcde", "", "10=1:1 / 1:1 4:4 up " + six + "abcde=" + door + "abcde down ="},
		{"data 1:1 4:4 0 " + six + "abcd", "data 9:10 4:4 0 " + door + "abcd", "10=1:1 / 1:1 4:4 up " + six + "abcde=" + door + "abcde down ="},
		{"data 1:1 4:4 1 " + six[1:] + "abcde", "", "10=1:1 / 1:1 4:4 up " + six + "abcde=" + door + "abcde down ="},
		{"data 1:1 4:4 5 " + six[5:] + "abcde", "data 9:10 4:4 6 " + door[6:] + "abcde", "10=1:1 / 1:1 4:4 up " + six + "abcde=" + door + "abcde down ="},
		{"data 1:1 4:4 35 @1:1;", "data 9:10 4:4 41 @9:10;", "10=1:1 / 1:1 4:4 up " + six + "abcde@1:1;=" + door + "abcde@9:10; down ="},
		{"ack 4:4 9:10 47", "ack 4:4 1:1 40", "10=1:1 / 1:1 4:4 up " + six + "abcde@1:1;=" + door + "abcde@9:10; down ="},
		{"ack 4:4 9:10 46", "ack 4:4 1:1 35", "10=1:1 / 1:1 4:4 up " + six + "abcde@1:1;=" + door + "abcde@9:10; down ="},
		{"ack 4:4 9:10 48", "", "10=1:1 / 1:1 4:4 up " + six + "abcde@1:1;=" + door + "abcde@9:10; down ="},
		{"data 1:2 4:4 0 @1:1;" + six + "@1:1;", "", "10=1:1 11=1:2 / 1:1 4:4 up " + six + "abcde@1:1;=" + door + "abcde@9:10; down = / 1:2 4:4 up @1:1;" + six + "@1:1;=@9:10;" + door + "@9:10; down ="},
		{"data 1:2 4:4 35 z", "", "10=1:1 11=1:2 / 1:1 4:4 up " + six + "abcde@1:1;=" + door + "abcde@9:10; down = / 1:2 4:4 up @1:1;" + six + "@1:1;=@9:10;" + door + "@9:10; down ="},
		{"data 1:2 4:4 35 zzzzz", "data 9:11 4:4 42 @9:10;", "10=1:1 11=1:2 / 1:1 4:4 up " + six + "abcde@1:1;=" + door + "abcde@9:10; down = / 1:2 4:4 up @1:1;" + six + "@1:1;=@9:10;" + door + "@9:10; down ="},
	})
}

// A packet opens the last flow there may be, and the next one none, and no port; a flow that is there goes on.
func TestDoorEdgesOfFlows(t *testing.T) {
	t.Parallel()
	three := "10=1:1 11=1:2 / 1:1 4:4 up a=a down = / 1:2 4:4 up = down = / 1:1 4:5 up = down ="
	four := "10=1:1 11=1:2 12=3:9 / 1:1 4:4 up a=a down = / 1:2 4:4 up = down = / 1:1 4:5 up = down = / 3:9 6:9 up = down ="
	mustPlay(t, impl.Door{}, []step{
		{"data 1:1 4:4 0 a", "data 9:10 4:4 0 a", "10=1:1 / 1:1 4:4 up a=a down ="},
		{"ack 1:2 4:4 0", "ack 9:11 4:4 0", "10=1:1 11=1:2 / 1:1 4:4 up a=a down = / 1:2 4:4 up = down ="},
		{"ack 1:1 4:5 1", "", three},
		{"data 3:9 6:9 7 a", "", four},
		{"data 2:1 4:4 0 @2:2;", "", four},
		{"ack 2:1 4:4 0", "", four},
		{"data 1:1 4:6 0 @2:2;", "", four},
		{"ack 1:1 6:9 0", "", four},
		{"data 3:9 6:9 0 b", "data 9:12 6:9 0 b", strings.Replace(four, "6:9 up = ", "6:9 up b=b ", 1)},
		{"data 2:2 4:4 0 a", "", strings.Replace(four, "6:9 up = ", "6:9 up b=b ", 1)},
		{"data 6:9 9:12 0 @9:12;", "data 6:9 3:9 0 @3:9;", strings.Replace(four, "6:9 up = down =", "6:9 up b=b down @9:12;=@3:9;", 1)},
	})
}

// None is left: who has a port calls on, who has none does not; the last port goes to who calls, not to whom it names.
func TestDoorEdgesOfPorts(t *testing.T) {
	t.Parallel()
	e := insideEnds()
	all := "10=1:1 11=1:2 12=1:3 13=1:4 14=1:5 15=1:6 16=1:7 17=1:8"
	seven := strings.TrimSuffix(all, " 17=1:8")
	mustPlay(t, impl.Door{Map: mapOf(e[:8]...)}, []step{
		{"data 1:9 4:4 0 a", "", all},
		{"ack 1:9 4:4 0", "", all},
		{"data 1:8 4:4 0 @1:9;@1:1;", "data 9:17 4:4 0 @1:9;@9:10;", all + " / 1:8 4:4 up @1:9;@1:1;=@1:9;@9:10; down ="},
		{"data 1:9 4:4 0 a", "", all + " / 1:8 4:4 up @1:9;@1:1;=@1:9;@9:10; down ="},
	})
	mustPlay(t, impl.Door{Map: mapOf(e[:7]...)}, []step{
		{"data 1:8 4:4 0 @1:9;@1:8;", "data 9:17 4:4 0 @1:9;@9:17;", all + " / 1:8 4:4 up @1:9;@1:8;=@1:9;@9:17; down ="},
	})
	mustPlay(t, impl.Door{Map: mapOf(e[:7]...)}, []step{
		{"data 1:7 4:4 0 @1:9;@1:8;", "data 9:16 4:4 0 @9:17;@1:8;", seven + " 17=1:9 / 1:7 4:4 up @1:9;@1:8;=@9:17;@1:8; down ="},
		{"data 1:8 4:4 0 a", "", seven + " 17=1:9 / 1:7 4:4 up @1:9;@1:8;=@9:17;@1:8; down ="},
		{"data 1:9 4:4 0 a", "data 9:17 4:4 0 a", seven + " 17=1:9 / 1:7 4:4 up @1:9;@1:8;=@9:17;@1:8; down = / 1:9 4:4 up a=a down ="},
	})
}

func TestDoorsAsWritten(t *testing.T) {
	t.Parallel()
	passed, stayed, changed := 0, 0, 0
	count := func(d impl.Door, p impl.Pkt) {
		then := mustBeAsWritten(t, d, p)
		switch {
		case then.ok:
			passed++
		case equalDoors(d, then.d):
			stayed++
		default:
			changed++
		}
	}
	eachCrossing(t, count)
	for _, d := range okDoors(t) {
		if !wantDoorOk(d) || !impl.DoorOk(d) {
			t.Fatalf("[%s]: DoorOk is %v", toldDoor(d), impl.DoorOk(d))
		}
		flowPkts(d, allPlaces()[:42], doorTexts, func(p impl.Pkt) {
			mustCross(t, "DoorPass", d, p, doorPass(d, p), wantPass(t, d, p))
		})
		flowPkts(d, allPlaces(), nil, func(p impl.Pkt) {
			mustCross(t, "DoorPass", d, p, doorPass(d, p), wantPass(t, d, p))
		})
	}
	if passed < 1000 || stayed < 1000 || changed < 1000 {
		t.Errorf("%d packets pass, of %d all stays, %d change something alone", passed, stayed, changed)
	}
}

func TestPlaysAsWritten(t *testing.T) {
	t.Parallel()
	passed, flows, ports := 0, 0, 0
	for _, named := range []int{0, 2, 12} {
		eachPlay(t, named, func(d impl.Door, p impl.Pkt) {
			then := mustBeAsWritten(t, d, p)
			if !impl.DoorOk(then.d) {
				t.Fatalf("[%s]: DoorOk is false", toldDoor(then.d))
			}
			if then.ok {
				passed++
			}
			flows, ports = max(flows, len(then.d.Flows)), max(ports, len(then.d.Map))
		})
	}
	if passed < 2000 || flows != 4 || ports != 8 {
		t.Errorf("%d packets pass, flows are at most %d, ports %d", passed, flows, ports)
	}
}

// mustBeNothing asks all three of a door that is not ok, or a packet that is not in form.
func mustBeNothing(t *testing.T, what string, d impl.Door, p impl.Pkt) {
	t.Helper()
	mustCross(t, what+": DoorOut", d, p, doorOut(d, p), crossing{})
	mustCross(t, what+": DoorIn", d, p, doorIn(d, p), crossing{})
	mustCross(t, what+": DoorPass", d, p, doorPass(d, p), crossing{})
}

// sidesOf tells two ends from each side to each, from and to those of the flow that most doors here have, and others.
func sidesOf(t *testing.T) [][2]impl.End {
	t.Helper()
	var twos [][2]impl.End
	names := []string{"1:1", "3:8", "4:4", "6:1", "9:10", "9:17"}
	for _, from := range names {
		for _, to := range names {
			twos = append(twos, [2]impl.End{endNamed(t, from), endNamed(t, to)})
		}
	}
	return twos
}

// Nothing, whatever the ends of the packet are: such as go out, such as come in, and others.
func TestDoorsThatAreNotOk(t *testing.T) {
	t.Parallel()
	var pkts []impl.Pkt
	for _, text := range []string{"data 1:1 4:4 0 a", "data 1:1 4:4 7 a", "ack 1:1 4:4 0", "data 4:4 9:10 0 a", "ack 4:4 9:10 0", "data 2:2 6:6 0 @1:1;", "data 6:6 9:17 0 a", "ack 2:2 6:6 1", "data 4:4 1:1 0 a", "ack 1:1 2:2 1"} {
		pkts = append(pkts, pktOf(t, text))
	}
	pkts = append(pkts, impl.Pkt{})
	for i, two := range sidesOf(t) {
		p := impl.Pkt{Kind: 1 + i%2, From: two[0], To: two[1], At: i % 3}
		if p.Kind == 1 {
			p.Text = "a"
		}
		pkts = append(pkts, p)
		if i%5 == 0 {
			// Not in form either.
			p.At += 100
			pkts = append(pkts, p)
		}
	}
	for what, d := range wrongDoors(t) {
		if wantDoorOk(d) || impl.DoorOk(d) {
			t.Errorf("%s: DoorOk of [%s] is %v", what, toldDoor(d), impl.DoorOk(d))
			continue
		}
		few := pkts
		if len(d.Flows) > 100 || len(d.Map) > 100 {
			few = append(pkts[:3:3], pktOf(t, "data 4:4 1:1 0 a"), impl.Pkt{})
		}
		for _, p := range few {
			mustBeNothing(t, what, d, p)
		}
	}
}

// fewDoors is an ok door of no flow, one in use, one with all flows, and one with strange streams.
func fewDoors(t *testing.T) []impl.Door {
	t.Helper()
	all := okDoors(t)
	return []impl.Door{all[0], all[5], all[10], all[15]}
}

// Between any two ends there may be, and with ends that are none.
func TestPktsOfOtherEnds(t *testing.T) {
	t.Parallel()
	none := noEnds()
	for _, d := range fewDoors(t) {
		for i, from := range anyEnds() {
			for j, to := range anyEnds() {
				p := impl.Pkt{Kind: 1, From: from, To: to, Text: "a@1:1;"}
				if (i+j)%2 == 0 {
					p = impl.Pkt{Kind: 2, From: from, To: to}
				}
				mustBeAsWritten(t, d, p)
				if !insideSet[from] || !outsideSet[to] {
					mustCross(t, "DoorOut", d, p, doorOut(d, p), crossing{})
				}
				if !outsideSet[from] || !doorSet[to] {
					mustCross(t, "DoorIn", d, p, doorIn(d, p), crossing{})
				}
				if !isOut(p) && !isIn(p) {
					mustCross(t, "DoorPass", d, p, doorPass(d, p), crossing{d: d})
				}
			}
			e, kind := none[i%len(none)], 1+i%2
			for _, p := range []impl.Pkt{{Kind: kind, From: from, To: e, Text: "a"}, {Kind: kind, From: e, To: from}, {Kind: kind, From: e, To: e, Text: "a"}} {
				mustBeNothing(t, "an end that is none", d, p)
			}
		}
	}
}

// Nothing, whatever the ends of the packet are: such as go out, such as come in, and others.
func TestPktsNotInForm(t *testing.T) {
	t.Parallel()
	for _, d := range fewDoors(t) {
		mustBeNothing(t, "the packet that is nothing", d, impl.Pkt{})
		for _, two := range sidesOf(t) {
			wrong := []impl.Pkt{{Kind: 1}, {Kind: 2, Text: "a"}, {Kind: 2, Text: " "}, {Kind: 1, Text: " "}}
			for _, kind := range wrongKinds {
				wrong = append(wrong, impl.Pkt{Kind: kind, Text: "a"}, impl.Pkt{Kind: kind})
			}
			for _, at := range wrongAts {
				wrong = append(wrong, impl.Pkt{Kind: 1, At: at, Text: "a"}, impl.Pkt{Kind: 2, At: at})
			}
			for _, text := range wrongTexts() {
				wrong = append(wrong, impl.Pkt{Kind: 1, Text: text}, impl.Pkt{Kind: 2, Text: text})
			}
			for _, p := range wrong {
				p.From, p.To = two[0], two[1]
				if impl.PktOk(p) {
					t.Fatalf("%s is in form", toldPkt(p))
				}
				mustBeNothing(t, "not in form", d, p)
			}
		}
	}
}

// The empty list and the nil list are the same value.
func TestDoorEmptyAndNil(t *testing.T) {
	t.Parallel()
	empty := impl.Door{Map: make([]impl.Pair, 0, 9), Flows: make([]impl.Flow, 0, 5)}
	if !impl.DoorOk(empty) || !impl.DoorOk(impl.Door{}) {
		t.Error("the empty door is not ok")
	}
	one := doorOf(t, nil, said{"1:1", "4:4", "", ""})
	other := doorOf(t, nil, said{"1:1", "4:4", "", ""})
	other.Flows[0].Up.Parts, other.Flows[0].Down.Parts = make([]impl.Part, 0, 3), []impl.Part{}
	if !impl.DoorOk(one) || !impl.DoorOk(other) {
		t.Error("a door of an empty flow is not ok")
	}
	otherPkts(one, func(p impl.Pkt) {
		mustCross(t, "DoorPass", empty, p, doorPass(empty, p), doorPass(impl.Door{}, p))
		mustCross(t, "DoorPass", other, p, doorPass(other, p), doorPass(one, p))
	})
}

// roomy is a door of the same value whose lists have marks behind their ends; marks tells whether these, and all the lists, still are as they were.
func roomy(d impl.Door) (copied impl.Door, unchanged func() bool) {
	var checks []func() bool
	roomyParts := func(parts []impl.Part) []impl.Part {
		whole := append(slices.Clone(parts), slices.Repeat([]impl.Part{{Size: 77, Text: "mark"}}, 50)...)
		before := slices.Clone(whole)
		checks = append(checks, func() bool { return slices.Equal(whole, before) })
		return whole[:len(parts)]
	}
	pairs := append(slices.Clone(d.Map), slices.Repeat([]impl.Pair{{Port: 77}}, 12)...)
	pairsBefore := slices.Clone(pairs)
	var flows []impl.Flow
	for _, f := range d.Flows {
		f.Up.Parts, f.Down.Parts = roomyParts(f.Up.Parts), roomyParts(f.Down.Parts)
		flows = append(flows, f)
	}
	flows = append(flows, slices.Repeat([]impl.Flow{{Inside: impl.End{Addr: 77}}}, 6)...)
	flowsBefore := slices.Clone(flows)
	checks = append(checks, func() bool {
		return slices.Equal(pairs, pairsBefore) && slices.EqualFunc(flows, flowsBefore, equalFlows)
	})
	return impl.Door{Map: pairs[:len(d.Map)], Flows: flows[:len(d.Flows)]}, func() bool {
		return !slices.ContainsFunc(checks, func(same func() bool) bool { return !same() })
	}
}

// deepCopy shares nothing with the door.
func deepCopy(d impl.Door) impl.Door {
	all := impl.Door{Map: slices.Clone(d.Map)}
	for _, f := range d.Flows {
		f.Up.Parts, f.Down.Parts = slices.Clone(f.Up.Parts), slices.Clone(f.Down.Parts)
		all.Flows = append(all.Flows, f)
	}
	return all
}

func scribbleDoor(d impl.Door) {
	for i := range d.Flows {
		scribbleParts(d.Flows[i].Up.Parts)
		scribbleParts(d.Flows[i].Down.Parts)
	}
	for i := range d.Flows[:cap(d.Flows)] {
		d.Flows[:cap(d.Flows)][i] = impl.Flow{Inside: impl.End{Addr: -1}}
	}
	scribblePairs(d.Map)
}

// mustHaveOwnLists writes another mark into each list of parts, spare room included, and then asks whether each has its own alone.
func mustHaveOwnLists(t *testing.T, d impl.Door) {
	t.Helper()
	var lists [][]impl.Part
	for _, f := range d.Flows {
		lists = append(lists, f.Up.Parts[:cap(f.Up.Parts)], f.Down.Parts[:cap(f.Down.Parts)])
	}
	for i, list := range lists {
		for j := range list {
			list[j] = impl.Part{Size: 1000 + i}
		}
	}
	for i, list := range lists {
		if slices.ContainsFunc(list, func(p impl.Part) bool { return p.Size != 1000+i }) {
			t.Fatalf("lists of one answer share memory: list %d is %v", i, list)
		}
	}
}

// Nothing is written into an argument or behind its end, and no answer shares memory with it, or with another answer; no two lists of one answer share any.
func TestDoorAnswersAreNew(t *testing.T) {
	t.Parallel()
	texts := []string{"a", "@2:2;", "x@9:10;@", strings.Repeat("b", 40)}
	wrong := wrongDoors(t)
	doors := append(okDoors(t), wrong["one flow too many"], wrong["a flow twice"], wrong["no ports"], wrong["flow 1, up: no parts"], wrong["map: two exchanged"])
	for _, door := range doors {
		d, unchanged := roomy(door)
		one := func(p impl.Pkt) {
			for i, call := range []func(impl.Door, impl.Pkt) crossing{doorOut, doorIn, doorPass} {
				first, second := call(d, p), call(d, p)
				want := crossing{deepCopy(second.d), second.p, second.ok}
				scribbleDoor(first.d)
				mustCross(t, fmt.Sprintf("two answers of call %d share memory", i), d, p, second, want)
				mustHaveOwnLists(t, second.d)
			}
			if !unchanged() {
				t.Fatalf("behind %s the argument is changed, from [%s] to [%s]", toldPkt(p), toldDoor(door), toldDoor(d))
			}
		}
		flowPkts(d, []int{0, 1, 7, 40, 99}, texts, one)
		for _, text := range []string{"data 1:1 4:4 0 @2:2;", "data 3:3 5:9 0 @2:2;@", "ack 3:3 5:9 7", "data 4:4 9:10 0 a@", "ack 4:4 9:10 1", "data 5:9 9:17 0 a", "data 4:4 1:1 0 a", "ack 9:10 4:4 0", "data 9:10 9:10 0 a"} {
			one(pktOf(t, text))
		}
		one(impl.Pkt{})
		one(impl.Pkt{Kind: 3, From: endNamed(t, "1:1"), To: endNamed(t, "4:4"), Text: "a"})
		impl.DoorOk(d)
		if !unchanged() {
			t.Fatalf("DoorOk changes [%s]", toldDoor(door))
		}
	}
}

// Where the lists of the argument share memory, those of the answer do not.
func TestDoorOfSharedLists(t *testing.T) {
	t.Parallel()
	parts := slices.Repeat([]impl.Part{{Size: 1, Text: "a"}}, 5)
	whole := impl.Stream{In: "aaaaa", Parts: parts}
	begin := impl.Stream{In: "aaa", Parts: parts[:3]}
	d := impl.Door{Map: mapOf(insideEnds()[:2]...), Flows: []impl.Flow{
		{Inside: endNamed(t, "1:1"), Outside: endNamed(t, "4:4"), Up: whole, Down: whole},
		{Inside: endNamed(t, "1:2"), Outside: endNamed(t, "4:4"), Up: begin, Down: whole},
	}}
	for _, text := range []string{"data 1:2 4:4 3 b", "data 1:1 4:4 0 a", "data 4:4 9:10 5 c", "data 2:2 4:4 0 a", "ack 1:1 4:4 5", "data 4:4 1:1 0 a", "data 4:4 9:13 0 a"} {
		p := pktOf(t, text)
		got := doorPass(d, p)
		mustCross(t, "DoorPass", d, p, got, wantPass(t, d, p))
		mustHaveOwnLists(t, got.d)
		if !equalStreams(d.Flows[0].Up, impl.Stream{In: "aaaaa", Parts: slices.Repeat([]impl.Part{{Size: 1, Text: "a"}}, 5)}) {
			t.Fatalf("behind %q the argument is changed: [%s]", text, toldDoor(d))
		}
	}
}

// A stream that went on as much longer text than the door writes is as good as another: what goes on may begin behind place 99.
func TestDoorOfLongStreams(t *testing.T) {
	t.Parallel()
	long := func(size int) impl.Stream {
		return impl.Stream{In: strings.Repeat("a", size), Parts: slices.Repeat([]impl.Part{{Size: 1, Text: "@9:10;"}}, size)}
	}
	d := impl.Door{Map: mapOf(insideEnds()[:1]...), Flows: []impl.Flow{{Inside: endNamed(t, "1:1"), Outside: endNamed(t, "4:4"), Up: long(39), Down: long(40)}}}
	for _, c := range []struct {
		text string
		on   impl.Pkt
	}{
		{"data 1:1 4:4 39 b", impl.Pkt{Kind: 1, From: endNamed(t, "9:10"), To: endNamed(t, "4:4"), At: 234, Text: "b"}},
		{"data 1:1 4:4 30 aaaaaa", impl.Pkt{Kind: 1, From: endNamed(t, "9:10"), To: endNamed(t, "4:4"), At: 180, Text: strings.Repeat("@9:10;", 6)}},
		{"data 1:1 4:4 30 aaaaaaa", impl.Pkt{}},
		{"data 4:4 9:10 17 a", impl.Pkt{Kind: 1, From: endNamed(t, "4:4"), To: endNamed(t, "1:1"), At: 102, Text: "@9:10;"}},
		{"ack 4:4 9:10 99", impl.Pkt{Kind: 2, From: endNamed(t, "4:4"), To: endNamed(t, "1:1"), At: 16}},
		{"ack 1:1 4:4 99", impl.Pkt{Kind: 2, From: endNamed(t, "9:10"), To: endNamed(t, "4:4"), At: 16}},
	} {
		p := pktOf(t, c.text)
		if got := mustBeAsWritten(t, d, p); got.p != c.on {
			t.Errorf("%s: goes on as %s, want %s", c.text, toldPkt(got.p), toldPkt(c.on))
		}
	}
}

// eachOut tells the doors and packets of all those that go out, and what DoorOut tells of them.
func eachOut(t *testing.T, tell func(d impl.Door, p impl.Pkt, then crossing)) {
	t.Helper()
	one := func(d impl.Door, p impl.Pkt) {
		if isOut(p) {
			tell(d, p, doorOut(d, p))
		}
	}
	eachCrossing(t, one)
	eachPlay(t, 3, one)
}

// eachIn tells those that come in, and what DoorIn tells of them.
func eachIn(t *testing.T, tell func(d impl.Door, p impl.Pkt, then crossing)) {
	t.Helper()
	one := func(d impl.Door, p impl.Pkt) {
		if isIn(p) {
			tell(d, p, doorIn(d, p))
		}
	}
	eachCrossing(t, one)
	eachPlay(t, 3, one)
}

// flowOfPkt is the place of the flow of a packet, or -1.
func flowOfPkt(d impl.Door, p impl.Pkt) int {
	if isOut(p) {
		return flowAt(d, p.From, p.To)
	}
	return flowAt(d, endFor(d.Map, p.To.Port), p.From)
}

// toldPass is what was asked, and answered, for a test that fails.
func toldPass(d impl.Door, p impl.Pkt, then crossing) string {
	return fmt.Sprintf("%s by [%s] goes on as %s, %v, with [%s]", toldPkt(p), toldDoor(d), toldPkt(then.p), then.ok, toldDoor(then.d))
}

// mustBeMany asks that a test tried something.
func mustBeMany(t *testing.T, many int) {
	t.Helper()
	if many < 100 {
		t.Errorf("%d tried alone", many)
	}
}

// P53
func TestP53WhatGoesOut(t *testing.T) {
	t.Parallel()
	many := 0
	eachOut(t, func(d impl.Door, p impl.Pkt, then crossing) {
		if !then.ok {
			if then.p != (impl.Pkt{}) {
				t.Fatalf("a packet beside a false: %s", toldPass(d, p, then))
			}
			return
		}
		many++
		from, to := then.p.From, then.p.To
		if !doorSet[from] || endFor(then.d.Map, from.Port) != p.From || to != p.To || then.p.Kind != p.Kind {
			t.Fatal(toldPass(d, p, then))
		}
		if flowAt(then.d, p.From, p.To) < 0 || !wantDoorOk(then.d) || !impl.DoorOk(then.d) {
			t.Fatalf("the door is not ok, or has no flow: %s", toldPass(d, p, then))
		}
	})
	mustBeMany(t, many)
}

// P54
func TestP54DataThatGoesOut(t *testing.T) {
	t.Parallel()
	many := 0
	eachOut(t, func(d impl.Door, p impl.Pkt, then crossing) {
		if !then.ok || p.Kind != 1 {
			return
		}
		many++
		up := then.d.Flows[flowOfPkt(then.d, p)].Up
		if out := impl.StreamOut(up); out != textOf(up.Parts) || !strings.HasPrefix(out[then.p.At:], then.p.Text) || then.p.Text == "" {
			t.Fatalf("it does not stand in %q: %s", out, toldPass(d, p, then))
		}
		came := ""
		if i := flowOfPkt(d, p); i >= 0 {
			came = d.Flows[i].Up.In
		}
		all := came[:p.At] + p.Text
		if len(all) < len(came) {
			all = came
		}
		// The bytes that came stay, whatever is said to stand there.
		if up.In != came+all[len(came):] {
			t.Fatalf("ahead %q came, then %q: %s", came, up.In, toldPass(d, p, then))
		}
	})
	mustBeMany(t, many)
}

// P55
func TestP55NobodyUncalled(t *testing.T) {
	t.Parallel()
	in, out := 0, 0
	eachIn(t, func(d impl.Door, p impl.Pkt, then crossing) {
		if then.ok {
			in++
			from, to := then.p.From, then.p.To
			if !outsideSet[from] || from != p.From || !insideSet[to] || portOf(d.Map, to) != p.To.Port || flowAt(d, to, from) < 0 {
				t.Fatal(toldPass(d, p, then))
			}
			return
		}
		if then.p != (impl.Pkt{}) {
			t.Fatalf("a packet beside a false: %s", toldPass(d, p, then))
		}
		if flowOfPkt(d, p) < 0 {
			out++
			if !equalDoors(d, then.d) {
				t.Fatalf("something changes: %s", toldPass(d, p, then))
			}
		}
	})
	mustBeMany(t, in)
	mustBeMany(t, out)
}

// P55
func TestP55AheadOfBeingCalled(t *testing.T) {
	t.Parallel()
	for _, d := range okDoors(t) {
		for _, from := range outsideEnds() {
			for _, to := range doorEnds() {
				for _, p := range []impl.Pkt{{Kind: 1, From: from, To: to, Text: "a"}, {Kind: 2, From: from, To: to}} {
					inside := endFor(d.Map, to.Port)
					called := flowAt(d, inside, from) >= 0
					got := doorIn(d, p)
					if !called {
						mustCross(t, "DoorIn", d, p, got, crossing{d: d})
					} else if got.ok && (got.p.From != from || got.p.To != inside) || p.Kind == 2 && !got.ok {
						t.Fatal(toldPass(d, p, got))
					}
				}
			}
		}
	}
}

// P56
func TestP56DataThatComesIn(t *testing.T) {
	t.Parallel()
	many := 0
	eachIn(t, func(d impl.Door, p impl.Pkt, then crossing) {
		if !slices.Equal(d.Map, then.d.Map) || len(d.Flows) != len(then.d.Flows) {
			t.Fatalf("a flow is opened, or a port given: %s", toldPass(d, p, then))
		}
		if !then.ok || p.Kind != 1 {
			return
		}
		many++
		f := then.d.Flows[flowOfPkt(d, p)]
		if out := impl.StreamOut(f.Down); out != textOf(f.Down.Parts) || !strings.HasPrefix(out[then.p.At:], then.p.Text) || then.p.Text == "" {
			t.Fatalf("it does not stand in %q: %s", out, toldPass(d, p, then))
		}
		if !equalStreams(f.Up, d.Flows[flowOfPkt(d, p)].Up) {
			t.Fatalf("the other stream changes: %s", toldPass(d, p, then))
		}
	})
	mustBeMany(t, many)
}

// P57
func TestP57NotTooEarly(t *testing.T) {
	t.Parallel()
	many := 0
	eachPass(t, func(d impl.Door, p impl.Pkt, then crossing) {
		if !then.ok || p.Kind != 2 {
			return
		}
		many++
		f := then.d.Flows[flowOfPkt(then.d, p)]
		other := f.Up
		if isOut(p) {
			other = f.Down
		}
		if then.p.Kind != 2 || then.p.Text != "" || then.p.At != impl.StreamBack(other, p.At) || then.p.At != wantBack(other, p.At) {
			t.Fatal(toldPass(d, p, then))
		}
		if n := impl.StreamFor(other, then.p.At); n < 0 || n > p.At {
			t.Fatalf("of that %d went on: %s", n, toldPass(d, p, then))
		}
	})
	mustBeMany(t, many)
}

// P58
func TestP58OnceMore(t *testing.T) {
	t.Parallel()
	many := 0
	eachPass(t, func(d impl.Door, p impl.Pkt, then crossing) {
		again := doorPass(then.d, p)
		if !equalDoors(again.d, then.d) {
			t.Fatalf("once more something changes: %s", toldPass(then.d, p, again))
		}
		i := flowOfPkt(then.d, p)
		if i < 0 || p.Kind != 1 {
			return
		}
		went := then.d.Flows[i].Up
		if isIn(p) {
			went = then.d.Flows[i].Down
		}
		if again.ok {
			many++
			if out := textOf(went.Parts); !strings.HasPrefix(out[again.p.At:], again.p.Text) || again.p.Text == "" {
				t.Fatalf("it is no piece of %q: %s", out, toldPass(then.d, p, again))
			}
		}
	})
	mustBeMany(t, many)
}

// P58: each piece of what came already, said by itself.
func TestP58PiecesOfWhatCame(t *testing.T) {
	t.Parallel()
	for _, d := range fewDoors(t) {
		for _, f := range d.Flows {
			went := textOf(f.Up.Parts)
			for at := range len(f.Up.In) {
				for end := at + 1; end <= len(f.Up.In); end++ {
					p := impl.Pkt{Kind: 1, From: f.Inside, To: f.Outside, At: at, Text: f.Up.In[at:end]}
					got := doorPass(d, p)
					begin, behind := wantFor(f.Up, at), wantFor(f.Up, end)
					if !equalDoors(got.d, d) || got.ok != (begin < behind) || got.ok && (got.p.At != begin || got.p.Text != went[begin:behind]) {
						t.Fatal(toldPass(d, p, got))
					}
				}
			}
		}
	}
}

// P59
func TestP59OtherEnds(t *testing.T) {
	t.Parallel()
	many := 0
	turn := 0
	other := func(d impl.Door, kind, at int, text string) {
		all := anyEnds()
		for i, from := range all {
			turn++
			p := impl.Pkt{Kind: kind, From: from, To: all[(i*7+turn)%len(all)], At: at, Text: text}
			if isOut(p) || isIn(p) {
				continue
			}
			many++
			mustCross(t, "DoorPass", d, p, doorPass(d, p), crossing{d: d})
		}
	}
	for _, d := range okDoors(t) {
		for _, at := range []int{0, 1, 8, 40, 99} {
			other(d, 2, at, "")
			for _, text := range []string{"a", "@1:1;", "@9:10;@", strings.Repeat("b", 40)} {
				other(d, 1, at, text)
			}
		}
		// The door's own packets, and those it let in, are not let through once more.
		flowPkts(d, []int{0, 3}, []string{"a"}, func(p impl.Pkt) {
			if then := doorPass(d, p); then.ok {
				mustCross(t, "DoorPass", then.d, then.p, doorPass(then.d, then.p), crossing{d: then.d})
			}
		})
	}
	mustBeMany(t, many)
}

// P60
func TestP60TheOthersStay(t *testing.T) {
	t.Parallel()
	many := 0
	eachPass(t, func(d impl.Door, p impl.Pkt, then crossing) {
		if len(then.d.Map) < len(d.Map) || !slices.Equal(then.d.Map[:len(d.Map)], d.Map) {
			t.Fatalf("ports change: %s", toldPass(d, p, then))
		}
		of := flowOfPkt(d, p)
		if len(then.d.Flows) < len(d.Flows) || len(then.d.Flows) > len(d.Flows)+1 || of >= 0 && len(then.d.Flows) != len(d.Flows) {
			t.Fatalf("flows are other ones: %s", toldPass(d, p, then))
		}
		for i, f := range d.Flows {
			got := then.d.Flows[i]
			if got.Inside != f.Inside || got.Outside != f.Outside || i != of && !equalFlows(got, f) {
				t.Fatalf("flow %d changes: %s", i, toldPass(d, p, then))
			}
			if i != of {
				many++
			}
		}
		for _, f := range then.d.Flows[len(d.Flows):] {
			if f.Inside != p.From || f.Outside != p.To {
				t.Fatalf("another flow is opened: %s", toldPass(d, p, then))
			}
		}
	})
	mustBeMany(t, many)
}

// P61
func TestP61FlowsOfADoor(t *testing.T) {
	t.Parallel()
	mustBeOk := func(d impl.Door, want bool) {
		t.Helper()
		if ok := impl.DoorOk(d); ok != want || wantDoorOk(d) != want {
			t.Fatalf("[%s]: DoorOk is %v, want %v", toldDoor(d), ok, want)
		}
	}
	all := okDoors(t)
	turn := 0
	eachPlay(t, 3, func(d impl.Door, p impl.Pkt) {
		if turn++; turn%7 == 0 {
			all = append(all, d)
		}
	})
	for _, d := range all {
		mustBeOk(d, true)
		for i := range d.Flows {
			less := slices.Delete(slices.Clone(d.Flows), i, i+1)
			mustBeOk(impl.Door{Map: d.Map, Flows: less}, true)
			mustBeOk(impl.Door{Map: d.Map, Flows: d.Flows[:i]}, true)
			mustBeOk(impl.Door{Map: d.Map, Flows: append(slices.Clone(d.Flows), d.Flows[i])}, false)
			for j := range d.Flows {
				twice := slices.Clone(d.Flows)
				twice[j] = d.Flows[i]
				mustBeOk(impl.Door{Map: d.Map, Flows: twice}, i == j)
			}
		}
		mustBeOk(impl.Door{Flows: d.Flows}, len(d.Flows) == 0)
		mustBeOk(impl.Door{Map: d.Map}, true)
	}
}

// P62
func TestP62OnePortForAll(t *testing.T) {
	t.Parallel()
	many := 0
	outside := outsideEnds()
	for _, d := range append(okDoors(t), doorOf(t, mapOf(insideEnds()[:7]...), said{"1:3", "4:9", "", ""})) {
		for i, from := range insideEnds() {
			first := doorOut(d, impl.Pkt{Kind: 1, From: from, To: outside[i], Text: "@2:2;@3:3;x"})
			for j, to := range outside {
				between := doorPass(first.d, impl.Pkt{Kind: 1, From: insideEnds()[(i+j)%27], To: outside[i], Text: "@3:5;x"}).d
				for _, p := range []impl.Pkt{{Kind: 1, From: from, To: to, Text: "y"}, {Kind: 2, From: from, To: to}} {
					for _, then := range []impl.Door{first.d, between} {
						second := doorOut(then, p)
						if !first.ok || !second.ok {
							continue
						}
						many++
						if first.p.From != second.p.From || first.p.To != outside[i] || second.p.To != to {
							t.Fatalf("%s, and then %s", toldPkt(first.p), toldPass(then, p, second))
						}
					}
				}
			}
		}
	}
	mustBeMany(t, many)
}

// P63
func TestP63WhoIsCalledAnswers(t *testing.T) {
	t.Parallel()
	many := 0
	eachOut(t, func(d impl.Door, p impl.Pkt, then crossing) {
		if !then.ok || p.Kind != 1 {
			return
		}
		down := then.d.Flows[flowOfPkt(then.d, p)].Down
		if len(down.In) >= 40 {
			return
		}
		many++
		back := impl.Pkt{Kind: 1, From: then.p.To, To: then.p.From, At: len(down.In), Text: "x"}
		got := doorIn(then.d, back)
		if !got.ok || got.p.From != p.To || got.p.To != p.From || got.p.Kind != 1 || got.p.Text != "x" {
			t.Fatalf("what is said back: %s", toldPass(then.d, back, got))
		}
	})
	mustBeMany(t, many)
}

// P64
func TestP64AckOfTooMuch(t *testing.T) {
	t.Parallel()
	many, opened := 0, 0
	one := func(d impl.Door, p impl.Pkt) {
		went := ""
		i := flowOfPkt(d, p)
		if i >= 0 && isOut(p) {
			went = textOf(d.Flows[i].Down.Parts)
		} else if i >= 0 {
			went = textOf(d.Flows[i].Up.Parts)
		}
		if p.Kind != 2 || p.At <= len(went) {
			return
		}
		many++
		then := doorPass(d, p)
		if then.ok || then.p != (impl.Pkt{}) {
			t.Fatalf("it passes: %s", toldPass(d, p, then))
		}
		if equalDoors(d, then.d) {
			return
		}
		opened++
		m, _, _ := wantOut(d.Map, p.From)
		if i >= 0 || !isOut(p) || !equalDoors(then.d, impl.Door{Map: m, Flows: append(slices.Clone(d.Flows), impl.Flow{Inside: p.From, Outside: p.To})}) {
			t.Fatalf("more changes than that a flow is open: %s", toldPass(d, p, then))
		}
	}
	eachCrossing(t, one)
	eachPlay(t, 3, one)
	for _, d := range okDoors(t) {
		flowPkts(d, allPlaces(), nil, func(p impl.Pkt) { one(d, p) })
	}
	mustBeMany(t, many)
	mustBeMany(t, opened)
}

// heldEnds is all that may be held of a text: each beginning of a name.
var heldEnds = []string{"@", "@1", "@9", "@7", "@1:", "@9:", "@1:1", "@3:9", "@9:1", "@8:8", "@9:10", "@9:17", "@1:19", "@7:70"}

// P65
func TestP65WhatIsHeldWaits(t *testing.T) {
	t.Parallel()
	for _, d := range []impl.Door{{}, {Map: mapOf(insideEnds()[4:9]...)}, doorOf(t, nil, said{"2:2", "4:4", "abc", ""})} {
		for _, ahead := range []string{"", "a", "ab@", "@@", "@4:4;", "@9:10;", "x@2:2;", "@1:1;@2:9;", ";:"} {
			for _, held := range heldEnds {
				p := impl.Pkt{Kind: 1, From: endNamed(t, "1:1"), To: endNamed(t, "4:4"), Text: ahead + held}
				then := doorPass(d, p)
				i := flowOfPkt(then.d, p)
				_, out := wantTextOut(t, then.d.Map, ahead+"z")
				out = strings.TrimSuffix(out, "z")
				if went := textOf(then.d.Flows[i].Up.Parts); went != out || then.ok != (out != "") || then.p.Text != out {
					t.Fatalf("%q is let out, not %q: %s", went, out, toldPass(d, p, then))
				}
				// The same again, or a piece of it: still nothing of it.
				for at := range p.Text {
					again := doorPass(then.d, impl.Pkt{Kind: 1, From: p.From, To: p.To, At: at, Text: p.Text[at:]})
					if !equalDoors(again.d, then.d) || at >= len(ahead) && again.ok {
						t.Fatal(toldPass(then.d, p, again))
					}
				}
				for _, behind := range []string{"a", "@", ";", "1", ":"} {
					more := impl.Pkt{Kind: 1, From: p.From, To: p.To, At: len(ahead), Text: held + behind}
					got := doorPass(then.d, more)
					_, want := wantTextOut(t, got.d.Map, held+behind)
					if got.ok != (want != "") || got.p.Text != want || got.ok && got.p.At != len(out) {
						t.Fatalf("with more %q goes out: %s", want, toldPass(then.d, more, got))
					}
				}
			}
		}
	}
}

// cutsName says whether a packet begins or ends in the midst of a name that came.
func cutsName(in string, p impl.Pkt) bool {
	for _, at := range anyName.FindAllStringIndex(in, -1) {
		for _, edge := range []int{p.At, p.At + len(p.Text)} {
			if edge > at[0] && edge < at[1] {
				return true
			}
		}
	}
	return false
}

// P66
func TestP66NobodyInsideIsNamed(t *testing.T) {
	t.Parallel()
	names, inside := 0, 0
	for named := range 7 {
		eachPlay(t, named, func(d impl.Door, p impl.Pkt) {
			then := doorPass(d, p)
			if !then.ok || !isOut(p) || p.Kind != 1 {
				return
			}
			if slices.ContainsFunc(namedIn(t, then.p.Text), isInside) || slices.ContainsFunc(impl.TextNames(then.p.Text+"a"), isInside) {
				t.Fatalf("an end inside is named: %s", toldPass(d, p, then))
			}
			came := then.d.Flows[flowOfPkt(then.d, p)].Up.In
			if cutsName(came, p) {
				return
			}
			var want []impl.End
			for _, e := range namedIn(t, came[p.At:min(len(came), p.At+len(p.Text))]) {
				names++
				if isInside(e) {
					inside++
					e = impl.End{Addr: 9, Port: portOf(then.d.Map, e)}
				}
				want = append(want, e)
			}
			if got := namedIn(t, then.p.Text); !slices.Equal(got, want) {
				t.Fatalf("%v are named, want %v: %s", got, want, toldPass(d, p, then))
			}
		})
	}
	mustBeMany(t, names)
	mustBeMany(t, inside)
}
