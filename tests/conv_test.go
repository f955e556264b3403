package tests

import (
	"fmt"
	"math"
	"regexp"
	"slices"
	"strings"
	"testing"

	"loop.example/ostiary/impl"
)

// What the document says of conversations, written a second time, by other means than the program's: patterns for what may be said,
// and bytes that come one by one.
var (
	okSay    = regexp.MustCompile(`\A[a-z0-9@:;]{0,24}\z`)
	doorName = regexp.MustCompile(`@9:1[0-7];`)
)

func wantSayOk(text string) bool {
	return okSay.MatchString(text) && !heldThere.MatchString(text)
}

func wantNewOk(inside, outside impl.End, up, down string) bool {
	return insideSet[inside] && outsideSet[outside] && wantSayOk(up) && wantSayOk(down) && !doorName.MatchString(up)
}

func wantConvOk(c impl.Conv) bool {
	known := c.UpAck >= 0 && c.UpAck <= len(c.Up) && c.DownAck >= 0 && c.DownAck <= len(c.Down)
	return wantNewOk(c.Inside, c.Outside, c.Up, c.Down) && known && okText.MatchString(c.UpGot) && okText.MatchString(c.DownGot)
}

func wantSay(c impl.Conv, outward bool, port, at, many int) (impl.Pkt, bool) {
	p := impl.Pkt{Kind: 1, From: c.Inside, To: c.Outside, At: at}
	says := c.Up
	if !outward {
		p.From, p.To, says = c.Outside, impl.End{Addr: 9, Port: port}, c.Down
	}
	if !wantConvOk(c) || !anySet[p.To] {
		return impl.Pkt{}, false
	}
	for i := range len(says) {
		if i >= at && len(p.Text) < many {
			p.Text += says[i : i+1]
		}
	}
	return orNothing(p, at >= 0 && p.Text != "")
}

func orNothing(p impl.Pkt, ok bool) (impl.Pkt, bool) {
	if !ok {
		return impl.Pkt{}, false
	}
	return p, true
}

// hearing is what ConvHear tells.
type hearing struct {
	c  impl.Conv
	p  impl.Pkt
	ok bool
}

func convHear(c impl.Conv, inward bool, p impl.Pkt) hearing {
	then, answered, ok := impl.ConvHear(c, inward, p)
	return hearing{then, answered, ok}
}

// isFor says whether a packet is from and to such ends as the host inside, or the one outside, hears.
func isFor(c impl.Conv, inward bool, p impl.Pkt) bool {
	if inward {
		return p.From == c.Outside && p.To == c.Inside
	}
	return doorSet[p.From] && p.To == c.Outside
}

func wantHear(c impl.Conv, inward bool, p impl.Pkt) hearing {
	if !wantConvOk(c) || !wantPktOk(p) {
		return hearing{}
	}
	if !isFor(c, inward, p) {
		return hearing{c: c}
	}
	says, known, got := c.Up, &c.UpAck, &c.DownGot
	if !inward {
		says, known, got = c.Down, &c.DownAck, &c.UpGot
	}
	if p.Kind == 2 {
		for *known < p.At && *known < len(says) {
			*known++
		}
		return hearing{c: c}
	}
	for i := range len(p.Text) {
		if p.At+i == len(*got) && p.At+len(p.Text) <= 40 {
			*got += p.Text[i : i+1]
		}
	}
	return hearing{c, impl.Pkt{Kind: 2, From: p.To, To: p.From, At: len(*got)}, true}
}

// toldConv is short where a text is huge.
func toldConv(c impl.Conv) string {
	return fmt.Sprintf("%d:%d %d:%d up %.60q down %.60q %s", c.Inside.Addr, c.Inside.Port, c.Outside.Addr, c.Outside.Port, c.Up, c.Down, stateOf(c))
}

// stateOf is what is known, and what came, of up and then of down.
func stateOf(c impl.Conv) string {
	return fmt.Sprintf("%d %.60q %d %.60q", c.UpAck, c.UpGot, c.DownAck, c.DownGot)
}

func mustSay(t *testing.T, c impl.Conv, outward bool, port, at, many int) (impl.Pkt, bool) {
	t.Helper()
	got, ok := impl.ConvSay(c, outward, port, at, many)
	if want, wantOk := wantSay(c, outward, port, at, many); ok != wantOk || got != want {
		t.Fatalf("ConvSay by [%s], %v, %d, %d, %d is %s, %v; want %s, %v", toldConv(c), outward, port, at, many, toldPkt(got), ok, toldPkt(want), wantOk)
	}
	return got, ok
}

func mustHear(t *testing.T, c impl.Conv, inward bool, p impl.Pkt, want hearing) {
	t.Helper()
	if got := convHear(c, inward, p); got != want {
		t.Fatalf("ConvHear by [%s], %v, of %s: got [%s], %s, %v; want [%s], %s, %v", toldConv(c), inward, toldPkt(p), toldConv(got.c), toldPkt(got.p), got.ok, toldConv(want.c), toldPkt(want.p), want.ok)
	}
}

func toldHear(c impl.Conv, inward bool, p impl.Pkt, got hearing) string {
	return fmt.Sprintf("ConvHear by [%s], %v, of %s tells [%s], %s, %v", toldConv(c), inward, toldPkt(p), toldConv(got.c), toldPkt(got.p), got.ok)
}

// convOf is a conversation of such ends, in which all that is to be said may be.
func convOf(t *testing.T, inside, outside, up, down string) impl.Conv {
	t.Helper()
	c := impl.Conv{Inside: endNamed(t, inside), Outside: endNamed(t, outside), Up: up, Down: down}
	if !wantConvOk(c) {
		t.Fatalf("[%s] is not ok", toldConv(c))
	}
	return c
}

// upTexts and downTexts may be said: of no bytes, of one, of SayMax, with names of each side that may be named, and with what is nearly one.
func upTexts() []string {
	return []string{"", "a", ";", "hello", "@1:1;", "@4:4;x@7:7;", "ab@1:1;@2:2;c", "@9:9;@9:18;", "@9:123;@0", "@9:1@9:1a", strings.Repeat("a", 23), strings.Repeat("b", 24), strings.Repeat("@3:9;", 4) + "abcd"}
}

func downTexts() []string {
	return []string{"", "z", "you", "@9:10;", "@9:17;a@9:10;", "@1:1;x@6:9;", "@9:9;@9:10;@a", strings.Repeat("@9:11;", 4), strings.Repeat("y", 24), "@9:1;@1a"}
}

// gotTexts may have come: nothing, some, what is held, what names each side, and so many bytes that there is little room, or none.
func gotTexts() []string {
	return []string{"", "a", "hello", "@", "x@9:1", "@9:10;@1:1;", strings.Repeat("c", 24), strings.Repeat("d", 38), strings.Repeat("e", 39), strings.Repeat("f", 40), strings.Repeat("@9:1", 10)}
}

// okConvs is conversations between ends of each side, with each of those texts, in which nothing is known to have come, some, or all.
func okConvs() []impl.Conv {
	var all []impl.Conv
	inside, outside, ups, downs, gots := insideEnds(), outsideEnds(), upTexts(), downTexts(), gotTexts()
	for i := range 130 {
		c := impl.Conv{Inside: inside[i*5%27], Outside: outside[i*7%27], Up: ups[i%len(ups)], Down: downs[i%len(downs)]}
		if i >= 20 {
			c.UpGot, c.DownGot = gots[i%len(gots)], gots[i*3%len(gots)]
			c.UpAck, c.DownAck = len(c.Up)*(i%4)/3, len(c.Down)*(i*7%3)/2
		}
		all = append(all, c)
	}
	return all
}

// fewConvs is some of each kind of those.
func fewConvs() []impl.Conv {
	var few []impl.Conv
	for i, c := range okConvs() {
		if i%7 == 0 {
			few = append(few, c)
		}
	}
	return few
}

// wrongNumbers are no places, no numbers of bytes, and no ports, though some are once more if an int is cut to fewer bits.
var wrongNumbers = []int{-1, -2, -24, -1 << 8, 3 - 1<<8, 1 - 1<<32, math.MinInt, math.MinInt + 1, math.MinInt + 11}

// greatNumbers are places behind all, and more bytes than there are.
var greatNumbers = []int{25, 26, 40, 41, 99, 100, 1 << 8, 1<<8 + 1, 1<<16 + 10, 1 << 32, 1<<32 + 1, math.MaxInt - 24, math.MaxInt - 1, math.MaxInt}

// sayPorts are the ports of the door, those next to them, and others.
func sayPorts() []int {
	return slices.Concat(doorPorts, []int{0, 1, 9, 18, 19, 99, 1<<8 + 10, 1<<32 + 10, math.MaxInt}, wrongNumbers)
}

// eachSay tells those conversations, to be said each way from each place on, with so many bytes of each number; by a port of the door, and few by any.
func eachSay(tell func(c impl.Conv, outward bool, port, at, many int)) {
	numbers := slices.Concat(wrongNumbers, greatNumbers)
	for n := range 25 {
		numbers = append(numbers, n)
	}
	for i, c := range okConvs() {
		for _, at := range numbers {
			for _, many := range numbers {
				tell(c, true, 0, at, many)
				tell(c, false, doorPorts[i%8], at, many)
			}
		}
	}
	for _, c := range fewConvs() {
		for _, port := range sayPorts() {
			for _, at := range []int{-1, 0, 1, len(c.Down) - 1, len(c.Down), len(c.Down) + 1} {
				for _, many := range []int{0, 1, 5, 24, math.MaxInt} {
					tell(c, true, port, at, many)
					tell(c, false, port, at, many)
				}
			}
		}
	}
}

// hearPlaces is the places about what came to a host, what it has to say, and what it knows to have come of that: one ahead of each, that, and one behind.
func hearPlaces(says string, known int, got string) []int {
	all := []int{0, 1, 39, 40, 41, 98, 99, len(got) / 2, len(got) - 2}
	for _, at := range []int{len(says), known, len(got)} {
		all = append(all, at-1, at, at+1)
	}
	slices.Sort(all)
	return slices.DeleteFunc(slices.Compact(all), func(at int) bool { return at < 0 || at > 99 })
}

// hearTexts is texts of each size that matters where so many bytes came: some, as many as there is room for behind them, and one more.
func hearTexts(came int) []string {
	long := strings.Repeat("ghij", 10)
	all := []string{"a", "@", "ab", ":10;b", "@1:1;", "@9:10;@", long, long[:39]}
	for _, size := range []int{came, came + 1, 39 - came, 40 - came, 41 - came} {
		if size >= 1 && size <= 40 {
			all = append(all, long[:size])
		}
	}
	return all
}

// hearPkts tells packets of both kinds to a host of a conversation.
func hearPkts(c impl.Conv, inward bool, tell func(p impl.Pkt)) {
	from, to := []impl.End{c.Outside}, c.Inside
	says, known, got := c.Up, c.UpAck, c.DownGot
	if !inward {
		from, to = []impl.End{{Addr: 9, Port: 10}, {Addr: 9, Port: 13}, {Addr: 9, Port: 17}}, c.Outside
		says, known, got = c.Down, c.DownAck, c.UpGot
	}
	for _, e := range from {
		for _, at := range hearPlaces(says, known, got) {
			tell(impl.Pkt{Kind: 2, From: e, To: to, At: at})
			for _, text := range hearTexts(len(got)) {
				tell(impl.Pkt{Kind: 1, From: e, To: to, At: at, Text: text})
			}
		}
	}
}

// eachHear tells those conversations, with packets to each host, and then each packet of many talks, with the conversation that there is then.
func eachHear(tell func(c impl.Conv, inward bool, p impl.Pkt)) {
	for _, c := range okConvs() {
		for _, inward := range []bool{true, false} {
			hearPkts(c, inward, func(p impl.Pkt) { tell(c, inward, p) })
		}
	}
	eachTalk(tell)
}

// eachTalk tells each packet of many talks, from a conversation without anything on: texts of 40 bytes come cut anywhere, lost, twice and out of turn,
// some of it otherwise than it was said, and acks of anything.
func eachTalk(tell func(c impl.Conv, inward bool, p impl.Pkt)) {
	long := "ab@9:10;cd@1:1;ef@9:17;gh@4:4;ij@2:2;k@1"
	for talk, c := range okConvs()[:40] {
		n := turns(talk)
		c.UpAck, c.DownAck, c.UpGot, c.DownGot = 0, 0, "", ""
		for range 50 {
			inward, got := n.below(2) == 0, c.DownGot
			p := impl.Pkt{Kind: 1, From: c.Outside, To: c.Inside}
			if !inward {
				p.From, p.To, got = doorEnds()[n.below(8)], c.Outside, c.UpGot
			}
			if n.below(3) == 0 {
				p.Kind, p.At = 2, n.below(30)
			} else {
				p.At = max(0, min(39, len(got)+[]int{0, 0, 0, -1, -4, -40, 1, 3}[n.below(8)]))
				p.Text = long[p.At:min(40, p.At+1+n.below(9))]
			}
			if n.below(9) == 0 && p.Kind == 1 {
				p.Text = strings.Repeat("w", 1+n.below(40))
			}
			tell(c, inward, p)
			c = wantHear(c, inward, p).c
		}
	}
}

// wrongConvs is conversations that are not ok, each in one way, in which packets between 1:1 and 4:4 would be said and heard were they ok.
func wrongConvs(t *testing.T) map[string]impl.Conv {
	t.Helper()
	wrong := map[string]impl.Conv{"nothing": {}}
	add := func(what string, change func(c *impl.Conv)) {
		c := convOf(t, "1:1", "4:4", "hello@2:2;", "you@9:11;")
		c.UpAck, c.DownAck, c.UpGot, c.DownGot = 2, 3, "hel", "y"
		change(&c)
		wrong[what] = c
	}
	e := func(addr, port int) impl.End { return impl.End{Addr: addr, Port: port} }
	for what, end := range map[string]impl.End{"nothing": {}, "outside": e(4, 4), "of the door": e(9, 10), "of no side": e(7, 1), "without a port": e(1, 0), "with a door's port": e(1, 10), "with too great a port": e(1, 1<<32+1), "with too great an address": e(1<<8+1, 1)} {
		add("the end inside is "+what, func(c *impl.Conv) { c.Inside = end })
	}
	for what, end := range map[string]impl.End{"nothing": {}, "inside": e(1, 1), "another inside": e(2, 1), "of the door": e(9, 10), "of no side": e(8, 4), "without a port": e(4, 0), "with a door's port": e(4, 10), "with too great a port": e(4, 1<<32+4), "with too great an address": e(1<<8+4, 4)} {
		add("the end outside is "+what, func(c *impl.Conv) { c.Outside = end })
	}
	add("exchanged ends", func(c *impl.Conv) { c.Inside, c.Outside = c.Outside, c.Inside })
	for i, text := range wrongSays() {
		add(fmt.Sprintf("up %d: %.60q", i, text), func(c *impl.Conv) { c.Up, c.UpAck = text, 0 })
		add(fmt.Sprintf("down %d: %.60q", i, text), func(c *impl.Conv) { c.Down, c.DownAck = text, 0 })
	}
	for _, text := range doorSays() {
		add("up names an end of the door: "+text, func(c *impl.Conv) { c.Up = text })
	}
	for _, known := range slices.Concat(wrongNumbers, greatNumbers) {
		add(fmt.Sprintf("UpAck %d", known), func(c *impl.Conv) { c.UpAck = known })
		add(fmt.Sprintf("DownAck %d", known), func(c *impl.Conv) { c.DownAck = known })
	}
	add("UpAck is one more", func(c *impl.Conv) { c.UpAck = len(c.Up) + 1 })
	add("DownAck is one more", func(c *impl.Conv) { c.DownAck = len(c.Down) + 1 })
	add("UpAck is of nothing", func(c *impl.Conv) { c.Up, c.UpAck = "", 1 })
	add("DownAck is of nothing", func(c *impl.Conv) { c.Down, c.DownAck = "", 1 })
	add("UpAck is of down", func(c *impl.Conv) { c.Up, c.UpAck = "a", 2 })
	add("DownAck is of up", func(c *impl.Conv) { c.Down, c.DownAck = "a", 2 })
	for i, text := range wrongTexts() {
		add(fmt.Sprintf("UpGot %d: %.60q", i, text), func(c *impl.Conv) { c.UpGot = text })
		add(fmt.Sprintf("DownGot %d: %.60q", i, text), func(c *impl.Conv) { c.DownGot = text })
	}
	return wrong
}

// wrongSays nobody may say: they are not ok, too long, or something of them is held.
func wrongSays() []string {
	all := slices.Clone(wrongTexts())
	for _, held := range []string{"@", "@1", "@9", "@1:", "@9:", "@7:7", "@1:1", "@9:1", "@9:10", "@9:17", "@9:99"} {
		all = append(all, "abc"+held, "@1:1;"+held, strings.Repeat("a", 24-len(held))+held, "@@@"+held)
	}
	for _, long := range []string{strings.Repeat("a", 25), strings.Repeat("@1:1;", 5), strings.Repeat("a", 20) + "@2:2;", strings.Repeat("a", 39), strings.Repeat("a", 40), strings.Repeat("@3:3;", 8)} {
		all = append(all, long)
	}
	return all
}

// doorSays the one inside may not say, though the one outside may.
func doorSays() []string {
	all := []string{"a@9:10;", "@9:17;b", "@@9:12;", "@9:1@9:10;@1:1;", "@1:1;@9:13;@2:2;", strings.Repeat("a", 18) + "@9:14;", strings.Repeat("@9:15;", 4)}
	for _, e := range doorEnds() {
		all = append(all, name(e))
	}
	return all
}

func TestSayMax(t *testing.T) {
	t.Parallel()
	if impl.SayMax != 24 {
		t.Errorf("SayMax is %d", impl.SayMax)
	}
}

func mustNew(t *testing.T, inside, outside impl.End, up, down string, want bool) {
	t.Helper()
	c, ok := impl.ConvNew(inside, outside, up, down)
	wantC := impl.Conv{}
	if want {
		wantC = impl.Conv{Inside: inside, Outside: outside, Up: up, Down: down}
	}
	if ok != want || c != wantC || wantNewOk(inside, outside, up, down) != want {
		t.Fatalf("ConvNew of %v, %v, %.60q, %.60q is [%s], %v; want %v", inside, outside, up, down, toldConv(c), ok, want)
	}
}

func TestConvNewEdges(t *testing.T) {
	t.Parallel()
	in, out := impl.End{Addr: 1, Port: 1}, impl.End{Addr: 4, Port: 4}
	a24, a25 := strings.Repeat("a", 24), strings.Repeat("a", 25)
	for _, c := range []struct {
		up, down string
		want     bool
	}{
		{"", "", true},
		{"hello", "you", true},
		{a24, a24, true},
		{a25, "", false},
		{"", a25, false},
		{strings.Repeat("@1:1;", 4) + "abcd", strings.Repeat("@9:10;", 4), true},
		{strings.Repeat("@1:1;", 5), "", false},
		{"", strings.Repeat("@9:10;", 4) + "a", false},
		{"@1:1;@3:9;@4:4;@6:9;", "@1:1;@3:9;@4:4;@6:9;", true},
		{"@9:10;", "", false},
		{"@9:17;", "", false},
		{"@9:9;@9:18;@9:1;@9:100;", "", true},
		{"@1:1;a@9:10;b", "", false},
		{"", "@9:10;", true},
		{"", "@1:1;a@9:17;b", true},
		{"@", "", false},
		{"", "@", false},
		{"a@1", "", false},
		{"", "a@9:1", false},
		{"@9:10", "", false},
		{"", "@1:1", false},
		{"@1:1@", "", false},
		{"@1a", "@0", true},
		{"@9:100", "@9:17a", true},
		{"A", "", false},
		{"", "a b", false},
		{"\x00", "", false},
		{"", "é", false},
	} {
		mustNew(t, in, out, c.up, c.down, c.want)
	}
}

func TestConvNewOfEnds(t *testing.T) {
	t.Parallel()
	for _, e := range triedEnds() {
		for _, up := range []string{"", "hello"} {
			mustNew(t, e, impl.End{Addr: 4, Port: 4}, up, "you", insideSet[e])
			mustNew(t, impl.End{Addr: 1, Port: 1}, e, up, "you", outsideSet[e])
			mustNew(t, e, e, up, "", false)
		}
	}
	for _, a := range append(anyEnds(), impl.End{}) {
		for _, b := range append(anyEnds(), impl.End{}) {
			mustNew(t, a, b, "@2:2;", "@9:10;", insideSet[a] && outsideSet[b])
		}
	}
}

// Who is as it stands in the wrong ones, but for one thing, is ok.
func TestConvOkAsWritten(t *testing.T) {
	t.Parallel()
	for _, c := range okConvs() {
		if !wantConvOk(c) || !impl.ConvOk(c) {
			t.Fatalf("ConvOk of [%s] is %v", toldConv(c), impl.ConvOk(c))
		}
		for known := -1; known <= 26; known++ {
			up, down := c, c
			up.UpAck, down.DownAck = known, known
			if impl.ConvOk(up) != (known >= 0 && known <= len(c.Up)) || impl.ConvOk(down) != (known >= 0 && known <= len(c.Down)) {
				t.Fatalf("ConvOk of [%s] is %v, with %d known; of down %v", toldConv(c), impl.ConvOk(up), known, impl.ConvOk(down))
			}
		}
	}
	c := convOf(t, "1:1", "4:4", "hello", "you")
	okTexts(func(text string) {
		c.UpGot, c.DownGot = text, ""
		up := impl.ConvOk(c)
		c.UpGot, c.DownGot = "", text
		if down := impl.ConvOk(c); up != okText.MatchString(text) || down != up {
			t.Fatalf("ConvOk is %v, %v, where %.60q came", up, down, text)
		}
	})
}

// mustSayNothing asks what would be said, were the conversation ok.
func mustSayNothing(t *testing.T, what string, c impl.Conv) {
	t.Helper()
	for _, outward := range []bool{true, false} {
		for _, at := range []int{0, 1, 2} {
			for _, many := range []int{1, 24, math.MaxInt} {
				if p, ok := impl.ConvSay(c, outward, 10, at, many); ok || p != (impl.Pkt{}) {
					t.Fatalf("%s: ConvSay by [%s], %v, 10, %d, %d is %s, %v", what, toldConv(c), outward, at, many, toldPkt(p), ok)
				}
			}
		}
	}
}

func TestConvsThatAreNotOk(t *testing.T) {
	t.Parallel()
	for what, c := range wrongConvs(t) {
		if impl.ConvOk(c) || wantConvOk(c) {
			t.Errorf("%s: ConvOk of [%s] is %v", what, toldConv(c), impl.ConvOk(c))
			continue
		}
		mustSayNothing(t, what, c)
		for _, kind := range []int{1, 2, 3} {
			for _, two := range [][2]impl.End{{c.Outside, c.Inside}, {{Addr: 9, Port: 10}, c.Outside}, {{Addr: 4, Port: 4}, {Addr: 1, Port: 1}}, {{Addr: 9, Port: 10}, {Addr: 4, Port: 4}}, {{Addr: 5, Port: 5}, {Addr: 2, Port: 2}}} {
				p := impl.Pkt{Kind: kind, From: two[0], To: two[1], At: 1}
				if kind == 1 {
					p.Text = "ello"
				}
				mustHear(t, c, true, p, hearing{})
				mustHear(t, c, false, p, hearing{})
			}
		}
	}
}

func TestConvSayEdges(t *testing.T) {
	t.Parallel()
	hello := convOf(t, "1:1", "4:4", "hello@2:2;", "you@9:11;")
	known := hello
	known.UpAck, known.DownAck, known.UpGot, known.DownGot = 10, 9, "hello@9:11;", "you@2:2;"
	long := convOf(t, "3:9", "6:9", strings.Repeat("abcdef", 4), strings.Repeat("@9:17;", 4))
	none := convOf(t, "3:9", "6:9", "", "")
	for _, c := range []struct {
		c              impl.Conv
		outward        bool
		port, at, many int
		want           string
	}{
		{hello, true, 10, 0, 24, "data 1:1 4:4 0 hello@2:2;"},
		{hello, true, 10, 0, 10, "data 1:1 4:4 0 hello@2:2;"},
		{hello, true, 10, 0, 9, "data 1:1 4:4 0 hello@2:2"},
		{hello, true, 10, 0, 11, "data 1:1 4:4 0 hello@2:2;"},
		{hello, true, 10, 0, 1, "data 1:1 4:4 0 h"},
		{hello, true, 10, 0, 0, ""},
		{hello, true, 10, 0, -1, ""},
		{hello, true, 10, 1, 3, "data 1:1 4:4 1 ell"},
		{hello, true, 10, 9, 1, "data 1:1 4:4 9 ;"},
		{hello, true, 10, 9, 24, "data 1:1 4:4 9 ;"},
		{hello, true, 10, 9, math.MaxInt, "data 1:1 4:4 9 ;"},
		{hello, true, 10, 10, 1, ""},
		{hello, true, 10, 11, 1, ""},
		{hello, true, 10, -1, 24, ""},
		{hello, true, 10, math.MinInt, math.MaxInt, ""},
		{hello, true, 10, math.MaxInt, math.MaxInt, ""},
		{hello, true, 9, 0, 1, "data 1:1 4:4 0 h"},
		{hello, true, -5, 0, 1, "data 1:1 4:4 0 h"},
		{hello, false, 10, 0, 24, "data 4:4 9:10 0 you@9:11;"},
		{hello, false, 17, 0, 3, "data 4:4 9:17 0 you"},
		{hello, false, 13, 2, 4, "data 4:4 9:13 2 u@9:"},
		{hello, false, 9, 0, 24, ""},
		{hello, false, 18, 0, 24, ""},
		{hello, false, 0, 0, 24, ""},
		{hello, false, -10, 0, 24, ""},
		{hello, false, 1<<32 + 10, 0, 24, ""},
		{hello, false, 10, 8, 1, "data 4:4 9:10 8 ;"},
		{hello, false, 10, 8, math.MaxInt, "data 4:4 9:10 8 ;"},
		{hello, false, 10, 9, 1, ""},
		{hello, false, 10, 10, 1, ""},
		{hello, false, 10, -1, 1, ""},
		{hello, false, 10, 0, 0, ""},
		{known, true, 10, 0, 2, "data 1:1 4:4 0 he"},
		{known, false, 10, 0, 2, "data 4:4 9:10 0 yo"},
		{known, true, 10, 10, 2, ""},
		{long, true, 10, 0, 24, "data 3:9 6:9 0 " + long.Up},
		{long, true, 10, 23, 24, "data 3:9 6:9 23 f"},
		{long, true, 10, 24, 24, ""},
		{long, false, 17, 0, 24, "data 6:9 9:17 0 " + long.Down},
		{long, false, 17, 23, 1, "data 6:9 9:17 23 ;"},
		{long, false, 17, 24, 1, ""},
		{none, true, 10, 0, 24, ""},
		{none, false, 10, 0, 24, ""},
		{none, true, 10, -1, 1, ""},
	} {
		p, ok := mustSay(t, c.c, c.outward, c.port, c.at, c.many)
		if ok != (c.want != "") || wantPktText(p) != c.want {
			t.Errorf("ConvSay by [%s], %v, %d, %d, %d is %s, %v; want %q", toldConv(c.c), c.outward, c.port, c.at, c.many, toldPkt(p), ok, c.want)
		}
	}
}

func TestConvSayAsWritten(t *testing.T) {
	t.Parallel()
	said, not := 0, 0
	eachSay(func(c impl.Conv, outward bool, port, at, many int) {
		if _, ok := mustSay(t, c, outward, port, at, many); ok {
			said++
		} else {
			not++
		}
	})
	mustBeMany(t, said)
	mustBeMany(t, not)
}

// heard is a packet to the host inside, or the one outside, what it answers, if it does, and how the conversation is then.
type heard struct {
	inward        bool
	p, answer, by string
}

func mustTalk(t *testing.T, c impl.Conv, all []heard) {
	t.Helper()
	for _, h := range all {
		p := pktOf(t, h.p)
		got := convHear(c, h.inward, p)
		want := c
		want.UpAck, want.DownAck, want.UpGot, want.DownGot = got.c.UpAck, got.c.DownAck, got.c.UpGot, got.c.DownGot
		if stateOf(got.c) != h.by || wantPktText(got.p) != h.answer || got.ok != (h.answer != "") || got.c != want || !impl.ConvOk(got.c) {
			t.Fatalf("%s; want %s, %q", toldHear(c, h.inward, p, got), h.by, h.answer)
		}
		mustHear(t, c, h.inward, p, wantHear(c, h.inward, p))
		c = got.c
	}
}

func TestConvHearEdgesOfData(t *testing.T) {
	t.Parallel()
	mustTalk(t, convOf(t, "1:1", "4:4", "hello", "you"), []heard{
		{true, "data 4:4 1:1 1 ou", "ack 1:1 4:4 0", `0 "" 0 ""`},
		{true, "data 4:4 1:1 0 yo", "ack 1:1 4:4 2", `0 "" 0 "yo"`},
		{true, "data 4:4 1:1 3 x", "ack 1:1 4:4 2", `0 "" 0 "yo"`},
		{true, "data 4:4 1:1 1 ou", "ack 1:1 4:4 3", `0 "" 0 "you"`},
		{true, "data 4:4 1:1 1 ou", "ack 1:1 4:4 3", `0 "" 0 "you"`},
		{true, "data 4:4 1:1 0 xxx", "ack 1:1 4:4 3", `0 "" 0 "you"`},
		{true, "data 4:4 1:1 0 y", "ack 1:1 4:4 3", `0 "" 0 "you"`},
		{true, "data 4:4 1:1 1 o", "ack 1:1 4:4 3", `0 "" 0 "you"`},
		{true, "data 4:4 1:1 0 xxx@9", "ack 1:1 4:4 5", `0 "" 0 "you@9"`},
		{true, "data 4:4 1:1 5 :10;", "ack 1:1 4:4 9", `0 "" 0 "you@9:10;"`},
		{true, "data 4:4 1:1 99 a", "ack 1:1 4:4 9", `0 "" 0 "you@9:10;"`},
		{false, "data 9:10 4:4 0 h", "ack 4:4 9:10 1", `0 "h" 0 "you@9:10;"`},
		{false, "data 9:17 4:4 1 ello", "ack 4:4 9:17 5", `0 "hello" 0 "you@9:10;"`},
		{false, "data 9:10 4:4 6 a", "ack 4:4 9:10 5", `0 "hello" 0 "you@9:10;"`},
		{false, "data 9:10 4:4 4 o@1:1;", "ack 4:4 9:10 10", `0 "hello@1:1;" 0 "you@9:10;"`},
	})
}

// Room is for TextMax bytes: what begins ahead of the end of all that came counts from its own place on.
func TestConvHearEdgesOfRoom(t *testing.T) {
	t.Parallel()
	b38 := strings.Repeat("b", 38)
	quote := func(s string) string { return `0 "" 0 "` + s + `"` }
	c := convOf(t, "2:5", "5:2", "a", "z")
	mustTalk(t, c, []heard{
		{true, "data 5:2 2:5 0 " + b38, "ack 2:5 5:2 38", quote(b38)},
		{true, "data 5:2 2:5 38 abc", "ack 2:5 5:2 38", quote(b38)},
		{true, "data 5:2 2:5 39 a", "ack 2:5 5:2 38", quote(b38)},
		{true, "data 5:2 2:5 37 babc", "ack 2:5 5:2 38", quote(b38)},
		{true, "data 5:2 2:5 37 ba", "ack 2:5 5:2 39", quote(b38 + "a")},
		{true, "data 5:2 2:5 39 cd", "ack 2:5 5:2 39", quote(b38 + "a")},
		{true, "data 5:2 2:5 39 c", "ack 2:5 5:2 40", quote(b38 + "ac")},
		{true, "data 5:2 2:5 40 c", "ack 2:5 5:2 40", quote(b38 + "ac")},
		{true, "data 5:2 2:5 39 cc", "ack 2:5 5:2 40", quote(b38 + "ac")},
		{true, "data 5:2 2:5 0 " + strings.Repeat("d", 40), "ack 2:5 5:2 40", quote(b38 + "ac")},
		{true, "data 5:2 2:5 1 " + strings.Repeat("d", 40), "ack 2:5 5:2 40", quote(b38 + "ac")},
	})
	b20, d30 := strings.Repeat("b", 20), strings.Repeat("d", 30)
	mustTalk(t, c, []heard{
		{true, "data 5:2 2:5 0 " + b20, "ack 2:5 5:2 20", quote(b20)},
		{true, "data 5:2 2:5 11 " + d30, "ack 2:5 5:2 20", quote(b20)},
		{true, "data 5:2 2:5 10 " + d30, "ack 2:5 5:2 40", quote(b20 + d30[:20])},
	})
	mustTalk(t, c, []heard{
		{false, "data 9:10 5:2 1 " + strings.Repeat("d", 40), "ack 5:2 9:10 0", `0 "" 0 ""`},
		{false, "data 9:10 5:2 0 " + strings.Repeat("d", 40), "ack 5:2 9:10 40", `0 "` + strings.Repeat("d", 40) + `" 0 ""`},
		{false, "data 9:10 5:2 40 d", "ack 5:2 9:10 40", `0 "` + strings.Repeat("d", 40) + `" 0 ""`},
		{false, "data 9:10 5:2 41 d", "ack 5:2 9:10 40", `0 "` + strings.Repeat("d", 40) + `" 0 ""`},
	})
}

func TestConvHearEdgesOfAcks(t *testing.T) {
	t.Parallel()
	mustTalk(t, convOf(t, "1:1", "4:4", "hello", "you"), []heard{
		{true, "ack 4:4 1:1 0", "", `0 "" 0 ""`},
		{true, "ack 4:4 1:1 2", "", `2 "" 0 ""`},
		{true, "ack 4:4 1:1 2", "", `2 "" 0 ""`},
		{true, "ack 4:4 1:1 1", "", `2 "" 0 ""`},
		{true, "ack 4:4 1:1 0", "", `2 "" 0 ""`},
		{true, "ack 4:4 1:1 4", "", `4 "" 0 ""`},
		{true, "ack 4:4 1:1 3", "", `4 "" 0 ""`},
		{false, "ack 9:10 4:4 3", "", `4 "" 3 ""`},
		{false, "ack 9:17 4:4 2", "", `4 "" 3 ""`},
		{false, "ack 9:10 4:4 4", "", `4 "" 3 ""`},
		{true, "ack 4:4 1:1 5", "", `5 "" 3 ""`},
		{true, "ack 4:4 1:1 6", "", `5 "" 3 ""`},
		{true, "ack 4:4 1:1 99", "", `5 "" 3 ""`},
		{true, "ack 4:4 1:1 4", "", `5 "" 3 ""`},
	})
	mustTalk(t, convOf(t, "1:1", "4:4", "hello", "you"), []heard{
		{true, "ack 4:4 1:1 9", "", `5 "" 0 ""`},
		{false, "ack 9:12 4:4 1", "", `5 "" 1 ""`},
		{false, "ack 9:12 4:4 0", "", `5 "" 1 ""`},
		{false, "ack 9:12 4:4 99", "", `5 "" 3 ""`},
		{false, "ack 9:12 4:4 2", "", `5 "" 3 ""`},
	})
	mustTalk(t, convOf(t, "1:1", "4:4", "", strings.Repeat("z", 24)), []heard{
		{true, "ack 4:4 1:1 1", "", `0 "" 0 ""`},
		{false, "ack 9:10 4:4 23", "", `0 "" 23 ""`},
		{false, "ack 9:10 4:4 25", "", `0 "" 24 ""`},
	})
}

// Packets that are for the other host, for none, or from none.
func TestConvHearEdgesOfEnds(t *testing.T) {
	t.Parallel()
	c := convOf(t, "1:1", "4:4", "hello", "you")
	for _, text := range []string{"data %s 0 you", "data %s 0 hello", "ack %s 3"} {
		for _, ends := range []string{"4:4 1:1", "9:10 4:4", "1:1 4:4", "4:4 9:10", "9:10 1:1", "4:4 4:4", "1:1 1:1", "5:4 1:1", "4:5 1:1", "4:4 1:2", "4:4 2:1", "9:10 4:5", "9:10 5:4", "9:10 9:10", "2:2 4:4", "5:5 4:4"} {
			p := pktOf(t, fmt.Sprintf(text, ends))
			mustHear(t, c, true, p, wantHear(c, true, p))
			mustHear(t, c, false, p, wantHear(c, false, p))
			if ends != "4:4 1:1" {
				mustHear(t, c, true, p, hearing{c: c})
			}
			if ends != "9:10 4:4" {
				mustHear(t, c, false, p, hearing{c: c})
			}
		}
	}
}

func TestConvHearAsWritten(t *testing.T) {
	t.Parallel()
	came, answered, known := 0, 0, 0
	eachHear(func(c impl.Conv, inward bool, p impl.Pkt) {
		want := wantHear(c, inward, p)
		mustHear(t, c, inward, p, want)
		mustHear(t, c, inward, p, want)
		mustHear(t, c, !inward, p, hearing{c: c})
		if want.ok {
			answered++
		}
		if want.c.UpGot != c.UpGot || want.c.DownGot != c.DownGot {
			came++
		}
		if want.c.UpAck != c.UpAck || want.c.DownAck != c.DownAck {
			known++
		}
	})
	mustBeMany(t, answered-came)
	mustBeMany(t, came)
	mustBeMany(t, known)
}

// What is wrong in one way alone: nothing, whatever the ends of the packet are.
func TestConvHearOfPktsNotInForm(t *testing.T) {
	t.Parallel()
	one := func(c impl.Conv, p impl.Pkt) {
		t.Helper()
		if wantPktOk(p) {
			t.Fatalf("%s is in form", toldPkt(p))
		}
		mustHear(t, c, true, p, hearing{})
		mustHear(t, c, false, p, hearing{})
	}
	for _, c := range fewConvs() {
		one(c, impl.Pkt{})
		for _, two := range [][2]impl.End{{c.Outside, c.Inside}, {{Addr: 9, Port: 10}, c.Outside}, {c.Inside, c.Outside}, {{Addr: 5, Port: 5}, {Addr: 3, Port: 3}}} {
			from, to := two[0], two[1]
			for _, kind := range wrongKinds {
				one(c, impl.Pkt{Kind: kind, From: from, To: to})
				one(c, impl.Pkt{Kind: kind, From: from, To: to, Text: "a"})
			}
			for _, at := range wrongAts {
				one(c, impl.Pkt{Kind: 1, From: from, To: to, At: at, Text: "a"})
				one(c, impl.Pkt{Kind: 2, From: from, To: to, At: at})
			}
			for _, text := range []string{"A", "a b", "\x00", "é", strings.Repeat("a", 41), strings.Repeat("@1:1;", 100000)} {
				one(c, impl.Pkt{Kind: 1, From: from, To: to, Text: text})
				one(c, impl.Pkt{Kind: 2, From: from, To: to, Text: text})
			}
			one(c, impl.Pkt{Kind: 1, From: from, To: to})
			one(c, impl.Pkt{Kind: 2, From: from, To: to, Text: "a"})
			for _, e := range noEnds()[:12] {
				one(c, impl.Pkt{Kind: 1, From: e, To: to, Text: "a"})
				one(c, impl.Pkt{Kind: 1, From: from, To: e, Text: "a"})
				one(c, impl.Pkt{Kind: 2, From: e, To: e})
			}
		}
	}
}

// A conversation through the door, all that is said told whole: what came, and what is known, in the end.
func TestConvThroughTheDoor(t *testing.T) {
	t.Parallel()
	c, d := convOf(t, "1:1", "4:4", "hi@2:2;@1:1;", "@9:11;you@9:10;"), impl.Door{}
	carry := func(p impl.Pkt, inward bool, want string) (impl.Pkt, bool) {
		t.Helper()
		then, on, passed := impl.DoorPass(d, p)
		if !passed || wantPktText(on) != want {
			t.Fatalf("of %s goes on %s, %v; want %q", toldPkt(p), toldPkt(on), passed, want)
		}
		got := convHear(c, inward, on)
		d, c = then, got.c
		return got.p, got.ok
	}
	say := func(outward bool, port int, there, back string) {
		t.Helper()
		p, said := impl.ConvSay(c, outward, port, 0, 24)
		answer, answered := carry(p, !outward, there)
		if _, more := carry(answer, outward, back); !said || !answered || more {
			t.Fatalf("said %v, answered %v, the answer %v", said, answered, more)
		}
	}
	say(true, 0, "data 9:10 4:4 0 hi@9:11;@9:10;", "ack 4:4 1:1 12")
	say(false, 10, "data 4:4 1:1 0 @2:2;you@1:1;", "ack 9:10 4:4 15")
	if want := `12 "hi@9:11;@9:10;" 15 "@2:2;you@1:1;"`; stateOf(c) != want {
		t.Errorf("in the end it is %s, want %s", stateOf(c), want)
	}
}

// P67
func TestP67New(t *testing.T) {
	t.Parallel()
	inside, outside, turn := insideEnds(), outsideEnds(), 0
	for _, up := range upTexts() {
		for _, down := range append(downTexts(), doorSays()...) {
			turn++
			in, out := inside[turn%27], outside[turn*5%27]
			c, ok := impl.ConvNew(in, out, up, down)
			if ok != wantSayOk(down) || impl.ConvOk(c) != ok {
				t.Fatalf("ConvNew of %v, %v, %q, %q is [%s], %v; ConvOk of it is %v", in, out, up, down, toldConv(c), ok, impl.ConvOk(c))
			}
			if ok && c != (impl.Conv{Inside: in, Outside: out, Up: up, Down: down}) {
				t.Fatalf("ConvNew of %v, %v, %q, %q is [%s]", in, out, up, down, toldConv(c))
			}
		}
	}
}

// P68
func TestP68WhatIsSaid(t *testing.T) {
	t.Parallel()
	said := 0
	eachSay(func(c impl.Conv, outward bool, port, at, many int) {
		p, ok := impl.ConvSay(c, outward, port, at, many)
		if !ok {
			return
		}
		said++
		from, to, says := c.Inside, c.Outside, c.Up
		if !outward {
			from, to, says = c.Outside, impl.End{Addr: 9, Port: port}, c.Down
		}
		if p.Kind != impl.PktData || !impl.PktOk(p) || p.From != from || p.To != to || p.At != at || len(p.Text) > many || !strings.HasPrefix(says[at:], p.Text) {
			t.Fatalf("ConvSay by [%s], %v, %d, %d, %d is %s", toldConv(c), outward, port, at, many, toldPkt(p))
		}
		if len(p.Text) != min(many, len(says)-at) {
			t.Fatalf("ConvSay by [%s], %v, %d, %d, %d is %s, of too few bytes", toldConv(c), outward, port, at, many, toldPkt(p))
		}
	})
	mustBeMany(t, said)
}

// gotBy is what came to a host, and what came to the other one; knownBy is what it knows, and what the other one does.
func gotBy(c impl.Conv, inward bool) (string, string) {
	if inward {
		return c.DownGot, c.UpGot
	}
	return c.UpGot, c.DownGot
}

func knownBy(c impl.Conv, inward bool) (int, int) {
	if inward {
		return c.UpAck, c.DownAck
	}
	return c.DownAck, c.UpAck
}

// sameSaid says whether the ends, and what each has to say, are those that were.
func sameSaid(a, b impl.Conv) bool {
	return a.Inside == b.Inside && a.Outside == b.Outside && a.Up == b.Up && a.Down == b.Down
}

// P69
func TestP69WhatIsHeard(t *testing.T) {
	t.Parallel()
	more, acks := 0, 0
	eachHear(func(c impl.Conv, inward bool, p impl.Pkt) {
		h := convHear(c, inward, p)
		was, other := gotBy(c, inward)
		got, otherThen := gotBy(h.c, inward)
		_, known := knownBy(c, inward)
		if _, then := knownBy(h.c, inward); !sameSaid(h.c, c) || otherThen != other || then != known || !impl.ConvOk(h.c) {
			t.Fatal(toldHear(c, inward, p, h))
		}
		if p.Kind == impl.PktAck {
			acks++
			if got != was || h.ok || h.p != (impl.Pkt{}) {
				t.Fatal(toldHear(c, inward, p, h))
			}
			return
		}
		if len(got) > len(was) {
			more++
		}
		answer := impl.Pkt{Kind: impl.PktAck, From: p.To, To: p.From, At: len(got)}
		if !strings.HasPrefix(got, was) || !h.ok || h.p != answer || !impl.PktOk(h.p) || h.c.UpAck != c.UpAck || h.c.DownAck != c.DownAck {
			t.Fatal(toldHear(c, inward, p, h))
		}
		if p.At <= len(was) && p.At+len(p.Text) <= 40 && len(got) != max(len(was), p.At+len(p.Text)) {
			t.Fatalf("%s: not all of it came", toldHear(c, inward, p, h))
		}
		if len(got) > len(was) && got[len(was):] != p.Text[len(was)-p.At:] {
			t.Fatalf("%s: other bytes came", toldHear(c, inward, p, h))
		}
	})
	mustBeMany(t, more)
	mustBeMany(t, acks)
}

// P70
func TestP70OnceMore(t *testing.T) {
	t.Parallel()
	many := 0
	eachHear(func(c impl.Conv, inward bool, p impl.Pkt) {
		first := convHear(c, inward, p)
		mustHear(t, first.c, inward, p, first)
		if first.c != c {
			many++
		}
	})
	mustBeMany(t, many)
}

// P71
func TestP71OtherEnds(t *testing.T) {
	t.Parallel()
	others := 0
	for _, c := range fewConvs() {
		near := []impl.End{c.Inside, c.Outside, {Addr: c.Inside.Addr%3 + 1, Port: c.Inside.Port}, {Addr: c.Inside.Addr, Port: c.Inside.Port%9 + 1}, {Addr: (c.Outside.Addr-3)%3 + 4, Port: c.Outside.Port}, {Addr: c.Outside.Addr, Port: c.Outside.Port%9 + 1}}
		ends := slices.Concat(near, edgeEnds(), doorEnds())
		for _, from := range ends {
			for _, to := range ends {
				for _, p := range []impl.Pkt{{Kind: 1, Text: "abc"}, {Kind: 1, At: min(39, len(c.DownGot)), Text: "x"}, {Kind: 1, At: min(39, len(c.UpGot)), Text: "@"}, {Kind: 2, At: 24}, {Kind: 2, At: c.UpAck + 1}, {Kind: 2}} {
					p.From, p.To = from, to
					for _, inward := range []bool{true, false} {
						if !isFor(c, inward, p) {
							others++
							mustHear(t, c, inward, p, hearing{c: c})
						}
					}
				}
			}
		}
	}
	mustBeMany(t, others)
}

// Each end there is, but those of whom the host hears.
func TestP71AnyOtherEnd(t *testing.T) {
	t.Parallel()
	c := convOf(t, "2:3", "5:6", "hello", "you")
	for _, e := range anyEnds() {
		for _, p := range []impl.Pkt{{Kind: 1, Text: "yo"}, {Kind: 2, At: 3}} {
			for _, two := range [][2]impl.End{{e, c.Inside}, {c.Outside, e}, {e, c.Outside}, {{Addr: 9, Port: 10}, e}} {
				p.From, p.To = two[0], two[1]
				for _, inward := range []bool{true, false} {
					h := convHear(c, inward, p)
					if !isFor(c, inward, p) && h != (hearing{c: c}) || isFor(c, inward, p) && h.c == c {
						t.Fatal(toldHear(c, inward, p, h))
					}
				}
			}
		}
	}
}

// P72
func TestP72BehindWhatCame(t *testing.T) {
	t.Parallel()
	behind := 0
	eachHear(func(c impl.Conv, inward bool, p impl.Pkt) {
		got, _ := gotBy(c, inward)
		if p.Kind != impl.PktData || p.At <= len(got) {
			return
		}
		behind++
		mustHear(t, c, inward, p, hearing{c, impl.Pkt{Kind: impl.PktAck, From: p.To, To: p.From, At: len(got)}, true})
	})
	mustBeMany(t, behind)
	for _, c := range fewConvs() {
		for at := len(c.DownGot) + 1; at <= 99; at++ {
			p := impl.Pkt{Kind: impl.PktData, From: c.Outside, To: c.Inside, At: at, Text: "a"}
			mustHear(t, c, true, p, hearing{c, impl.Pkt{Kind: impl.PktAck, From: c.Inside, To: c.Outside, At: len(c.DownGot)}, true})
		}
	}
}

// P73
func TestP73OneByteAndTheOthers(t *testing.T) {
	t.Parallel()
	for i, c := range okConvs() {
		for _, outward := range []bool{true, false} {
			port, says := doorPorts[i%8], c.Up
			if !outward {
				says = c.Down
			}
			for at := range len(says) {
				all, ok := impl.ConvSay(c, outward, port, at, len(says)-at)
				one, okOne := impl.ConvSay(c, outward, port, at, 1)
				rest, okRest := impl.ConvSay(c, outward, port, at+1, 24)
				if !ok || !okOne || okRest != (at+1 < len(says)) || one.Text+rest.Text != all.Text || all.Text != says[at:] {
					t.Fatalf("[%s], %v, from %d on: %q and %q, of %q", toldConv(c), outward, at, one.Text, rest.Text, all.Text)
				}
				if okRest && (rest.At != one.At+1 || rest.From != one.From || rest.To != one.To) {
					t.Fatalf("[%s], %v, from %d on: %s and %s", toldConv(c), outward, at, toldPkt(one), toldPkt(rest))
				}
			}
		}
	}
}

// P74
func TestP74NothingToSay(t *testing.T) {
	t.Parallel()
	not := 0
	eachSay(func(c impl.Conv, outward bool, port, at, many int) {
		says := c.Up
		if !outward {
			says = c.Down
		}
		p, ok := impl.ConvSay(c, outward, port, at, many)
		wrong := at < 0 || at >= len(says) || many < 1 || !outward && !slices.Contains(doorPorts, port)
		if ok == wrong || wrong && p != (impl.Pkt{}) {
			t.Fatalf("ConvSay by [%s], %v, %d, %d, %d is %s, %v", toldConv(c), outward, port, at, many, toldPkt(p), ok)
		}
		if wrong {
			not++
		}
	})
	mustBeMany(t, not)
}

// P75
func TestP75AcksThatAreElder(t *testing.T) {
	t.Parallel()
	newer, elder, beyond := 0, 0, 0
	for _, conv := range okConvs() {
		for _, inward := range []bool{true, false} {
			says, from, to := conv.Up, conv.Outside, conv.Inside
			if !inward {
				says, from, to = conv.Down, impl.End{Addr: 9, Port: 12}, conv.Outside
			}
			for known := range len(says) + 1 {
				for at := range 100 {
					c := conv
					if inward {
						c.UpAck = known
					} else {
						c.DownAck = known
					}
					p := impl.Pkt{Kind: impl.PktAck, From: from, To: to, At: at}
					h := convHear(c, inward, p)
					want := hearing{c: c}
					switch {
					case at <= known:
						elder++
					case at <= len(says):
						newer++
						if then, _ := knownBy(h.c, inward); then != at {
							t.Fatal(toldHear(c, inward, p, h))
						}
					default:
						beyond++
					}
					if then := min(max(at, known), len(says)); inward {
						want.c.UpAck = then
					} else {
						want.c.DownAck = then
					}
					if at <= known && want.c != c {
						t.Fatalf("an elder ack is to change [%s]", toldConv(c))
					}
					mustHear(t, c, inward, p, want)
				}
			}
		}
	}
	mustBeMany(t, newer)
	mustBeMany(t, elder)
	mustBeMany(t, beyond)
}

// P75, of acks that come in any order: the greatest is known.
func TestP75AcksOutOfTurn(t *testing.T) {
	t.Parallel()
	for talk := range 200 {
		n := turns(talk)
		c := convOf(t, "1:1", "4:4", strings.Repeat("a", 24), strings.Repeat("z", 24))
		up, down := 0, 0
		for range 12 {
			at := n.below(25)
			if n.below(2) == 0 {
				up = max(up, at)
				c = convHear(c, true, impl.Pkt{Kind: impl.PktAck, From: c.Outside, To: c.Inside, At: at}).c
			} else {
				down = max(down, at)
				c = convHear(c, false, impl.Pkt{Kind: impl.PktAck, From: impl.End{Addr: 9, Port: 10 + n.below(8)}, To: c.Outside, At: at}).c
			}
			if c.UpAck != up || c.DownAck != down {
				t.Fatalf("[%s], want %d and %d", toldConv(c), up, down)
			}
		}
	}
}

// P76
func TestP76WhatMayBeSaid(t *testing.T) {
	t.Parallel()
	in, out := impl.End{Addr: 1, Port: 1}, impl.End{Addr: 4, Port: 4}
	ups, downs, not := 0, 0, 0
	one := func(text string) {
		up, okUp := impl.ConvNew(in, out, text, "")
		down, okDown := impl.ConvNew(in, out, "", text)
		may := impl.TextOk(text) && len(text) <= 24 && impl.TextHeld(text) == 0
		names := slices.ContainsFunc(impl.TextNames(text), impl.EndDoor)
		if okUp != (may && !names) || okDown != may || impl.ConvOk(up) != okUp || impl.ConvOk(down) != okDown {
			t.Fatalf("of %.60q ConvNew is %v inside, %v outside", text, okUp, okDown)
		}
		mustNew(t, in, out, text, "", okUp)
		mustNew(t, in, out, "", text, okDown)
		// What is said beside it does not matter.
		mustNew(t, in, out, text, "@9:10;", okUp)
		mustNew(t, in, out, "@1:1;", text, okDown)
		switch {
		case okUp:
			ups++
		case okDown:
			downs++
		default:
			not++
		}
	}
	allTexts("@109:;", 5, one)
	texts := fewTexts()
	for _, text := range slices.Concat(texts, upTexts(), downTexts(), gotTexts(), wrongSays(), doorSays()) {
		one(text)
	}
	for size := range 42 {
		one(strings.Repeat("a", size))
		for _, f := range fragments {
			if len(f) <= size {
				one(strings.Repeat("a", size-len(f)) + f)
			}
		}
	}
	if ups < 1000 || downs < 100 || not < 1000 {
		t.Errorf("%d texts may be said by both, %d by the one outside alone, %d by none", ups, downs, not)
	}
}

// cutTexts are texts that come, of two bytes and more, up to TextMax.
func cutTexts() []string {
	return []string{"ab", "you", "@9:10;", "hello@2:2;@1:1;", "@@9:17;@4:4;@1", strings.Repeat("@1:1;", 8), strings.Repeat("abcdefghij", 4), strings.Repeat("@9:10;", 6) + "@9:1", "aaaaaaaa"}
}

// allHeard is what a host knows to have come to it behind data of those pieces of a text, in that order.
func allHeard(t *testing.T, c impl.Conv, inward bool, text string, pieces [][2]int) string {
	t.Helper()
	for _, piece := range pieces {
		p := impl.Pkt{Kind: impl.PktData, From: c.Outside, To: c.Inside, At: piece[0], Text: text[piece[0]:piece[1]]}
		if !inward {
			p.From, p.To = impl.End{Addr: 9, Port: 10}, c.Outside
		}
		h := convHear(c, inward, p)
		if got, _ := gotBy(h.c, inward); !h.ok || h.p.At != len(got) || !strings.HasPrefix(text, got) {
			t.Fatalf("of %q: %s", text, toldHear(c, inward, p, h))
		}
		c = h.c
	}
	got, _ := gotBy(c, inward)
	return got
}

// P77
func TestP77CutAnywhere(t *testing.T) {
	t.Parallel()
	for i, conv := range fewConvs() {
		conv.UpGot, conv.DownGot = "", ""
		inward := i%2 == 0
		for _, text := range cutTexts() {
			whole := [2]int{0, len(text)}
			mustCome := func(pieces ...[2]int) {
				t.Helper()
				if got := allHeard(t, conv, inward, text, pieces); got != text {
					t.Fatalf("[%s], %v: of %q, by %v, came %q", toldConv(conv), inward, text, pieces, got)
				}
			}
			mustCome(whole)
			mustCome(whole, whole)
			for a := 1; a < len(text); a++ {
				first, others := [2]int{0, a}, [2]int{a, len(text)}
				mustCome(first, others)
				mustCome(others, whole)
				mustCome(others, first, others)
				mustCome(others, first, whole)
				mustCome(first, whole)
				if got := allHeard(t, conv, inward, text, [][2]int{others}); got != "" {
					t.Fatalf("[%s], %v: of the others of %q, from %d on, came %q", toldConv(conv), inward, text, a, got)
				}
				for b := a; b > 0 && b > a-3; b-- {
					mustCome([2]int{0, a}, [2]int{b, len(text)})
				}
				for b := a + 1; b < len(text); b++ {
					mustCome([2]int{0, a}, [2]int{a, b}, [2]int{b, len(text)})
					mustCome([2]int{b, len(text)}, [2]int{a, b}, [2]int{0, a}, whole)
				}
			}
		}
	}
}

// P77, one byte after the other.
func TestP77ByteByByte(t *testing.T) {
	t.Parallel()
	for _, conv := range fewConvs() {
		conv.UpGot, conv.DownGot = "", ""
		for _, text := range append(cutTexts(), "a", "@", ";") {
			var pieces, twice [][2]int
			for at := range len(text) {
				pieces = append(pieces, [2]int{at, at + 1})
				twice = append(twice, [2]int{at, at + 1}, [2]int{at, at + 1}, [2]int{0, at + 1})
			}
			back := slices.Clone(pieces)
			slices.Reverse(back)
			for _, inward := range []bool{true, false} {
				for _, all := range [][][2]int{pieces, twice, append(back, pieces...), append(back, [2]int{0, len(text)})} {
					if got := allHeard(t, conv, inward, text, all); got != text {
						t.Fatalf("[%s], %v: of %q, by %v, came %q", toldConv(conv), inward, text, all, got)
					}
				}
			}
		}
	}
}
