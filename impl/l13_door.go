package impl

import "slices"

// FlowMax is how many flows go through the door.
const FlowMax = 4

// Flow is what goes between an end inside and one outside: both ways.
type Flow struct {
	Inside  End
	Outside End
	Up      Stream
	Down    Stream
}

// Door is a door: its map, and its flows.
type Door struct {
	Map   []Pair
	Flows []Flow
}

// upStream and downStream are the streams of a flow, each with a method of another name: a flow that embeds both has both,
// and a method expression tells which stream is meant.
type (
	upStream   Stream
	downStream Stream
)

func (s *upStream) up() *Stream {
	return (*Stream)(s)
}

func (s *downStream) down() *Stream {
	return (*Stream)(s)
}

// flow is a Flow, while one call works with it.
type flow struct {
	inside, outside End
	upStream
	downStream
}

func flowOf(f Flow) flow {
	return flow{inside: f.Inside, outside: f.Outside, upStream: upStream(f.Up), downStream: downStream(f.Down)}
}

func (f *flow) tell() Flow {
	return Flow{Inside: f.inside, Outside: f.outside, Up: copyStream(*f.up()), Down: copyStream(*f.down())}
}

func copyStream(s Stream) Stream {
	return Stream{In: s.In, Parts: copyList(s.Parts)}
}

// copyList is new memory, so that no door that is told shares its lists, spare room included.
func copyList[T any](list []T) []T {
	return append([]T(nil), list...)
}

// way is one of the two ways through the door: which stream of a flow has the data that goes it, and of which one an ack
// that goes it tells. That is always the other one.
type way struct {
	out   bool
	data  func(f *flow) *Stream
	acked func(f *flow) *Stream
}

func outward() way {
	return way{out: true, data: (*flow).up, acked: (*flow).down}
}

func inward() way {
	return way{out: false, data: (*flow).down, acked: (*flow).up}
}

// doorway is a Door, ok or not, while one call works with it.
type doorway struct {
	pairs []Pair
	flows []flow
}

func doorwayOf(d Door) *doorway {
	w := &doorway{pairs: d.Map}
	for _, f := range d.Flows {
		w.flows = append(w.flows, flowOf(f))
	}
	return w
}

func (w *doorway) tell() Door {
	d := Door{Map: copyList(w.pairs)}
	for i := range w.flows {
		d.Flows = append(d.Flows, w.flows[i].tell())
	}
	return d
}

func (w *doorway) ok() bool {
	if !MapOk(w.pairs) || len(w.flows) > FlowMax {
		return false
	}
	for i := range w.flows {
		if !w.flowOk(&w.flows[i]) {
			return false
		}
	}
	return true
}

// flowOk does not ask whether the flow's end inside is one: by a map that is ok ports stand for no others.
func (w *doorway) flowOk(f *flow) bool {
	ends := w.hasPort(f.inside) && EndOutside(f.outside) && w.find(f.inside, f.outside) == f
	return ends && StreamOk(*f.up()) && StreamOk(*f.down())
}

func (w *doorway) hasPort(inside End) bool {
	return slices.ContainsFunc(w.pairs, func(p Pair) bool { return p.Inside == inside })
}

// find is the first flow of two ends, or nil.
func (w *doorway) find(inside, outside End) *flow {
	for i := range w.flows {
		if f := &w.flows[i]; f.inside == inside && f.outside == outside {
			return f
		}
	}
	return nil
}

// open is nil, and gives no port, if there can be no flow more.
func (w *doorway) open(inside, outside End) *flow {
	if len(w.flows) >= FlowMax {
		return nil
	}
	pairs, _, ok := MapOut(w.pairs, inside)
	if !ok {
		return nil
	}
	w.pairs = pairs
	w.flows = append(w.flows, flow{inside: inside, outside: outside})
	return &w.flows[len(w.flows)-1]
}

// pass tells the door behind a packet of a flow, and what goes on of it between these ends, if anything does.
func (w *doorway) pass(f *flow, p Pkt, how way, from, to End) (Door, Pkt, bool) {
	at, text, ok := w.goOn(f, p, how)
	if !ok {
		return w.tell(), Pkt{}, false
	}
	return w.tell(), Pkt{Kind: p.Kind, From: from, To: to, At: at, Text: text}, true
}

// goOn is the place and the bytes of what goes on of a packet.
func (w *doorway) goOn(f *flow, p Pkt, how way) (int, string, bool) {
	switch p.Kind {
	case PktData:
		return w.dataOn(how.data(f), p, how.out)
	case PktAck:
		at := StreamBack(*how.acked(f), p.At)
		return at, "", at >= 0
	}
	return 0, "", false
}

// dataOn puts data into its stream. What goes on is of the bytes of the packet alone: where some of them are new, they end
// with all that came, and what goes on with all that went on.
func (w *doorway) dataOn(s *Stream, p Pkt, out bool) (int, string, bool) {
	pairs, then, ok := StreamPut(w.pairs, *s, p.At, p.Text, out)
	if !ok {
		// Of a place that no stream has, StreamPut tells neither map nor stream; those of the door stay.
		return 0, "", false
	}
	w.pairs, *s = pairs, then
	begin, end := StreamFor(then, p.At), StreamFor(then, p.At+len(p.Text))
	text := StreamOut(then)[begin:end]
	return begin, text, text != "" && len(text) <= TextMax
}

func goesOut(p Pkt) bool {
	return EndInside(p.From) && EndOutside(p.To)
}

func comesIn(p Pkt) bool {
	return EndOutside(p.From) && EndDoor(p.To)
}

// DoorOk says whether a door is ok.
func DoorOk(d Door) bool {
	return doorwayOf(d).ok()
}

// takes says whether the door is ok, and the packet in form: of all others no call tells anything, whatever their ends.
func (w *doorway) takes(p Pkt) bool {
	return w.ok() && PktOk(p)
}

// passOut is of a packet that the door takes, and that goes out.
func (w *doorway) passOut(p Pkt) (Door, Pkt, bool) {
	f := w.find(p.From, p.To)
	if f == nil {
		f = w.open(p.From, p.To)
	}
	if f == nil {
		return w.tell(), Pkt{}, false
	}
	// Who has a flow has a port, so that none is given here.
	_, port, _ := MapOut(w.pairs, p.From)
	return w.pass(f, p, outward(), End{Addr: DoorAddr, Port: port}, p.To)
}

// passIn is of a packet that the door takes, and that comes in.
func (w *doorway) passIn(p Pkt) (Door, Pkt, bool) {
	// A port that stands for nobody tells no end that has a flow.
	inside, _ := MapIn(w.pairs, p.To.Port)
	f := w.find(inside, p.From)
	if f == nil {
		return w.tell(), Pkt{}, false
	}
	return w.pass(f, p, inward(), p.From, inside)
}

// DoorOut is what a door does with a packet from inside: what goes out, and whether anything does.
func DoorOut(d Door, p Pkt) (Door, Pkt, bool) {
	w := doorwayOf(d)
	if !w.takes(p) || !goesOut(p) {
		return Door{}, Pkt{}, false
	}
	return w.passOut(p)
}

// DoorIn is what a door does with a packet from outside: what comes in, and whether anything does.
func DoorIn(d Door, p Pkt) (Door, Pkt, bool) {
	w := doorwayOf(d)
	if !w.takes(p) || !comesIn(p) {
		return Door{}, Pkt{}, false
	}
	return w.passIn(p)
}

// DoorPass is what a door does with a packet, from wherever it is.
func DoorPass(d Door, p Pkt) (Door, Pkt, bool) {
	w := doorwayOf(d)
	switch {
	case !w.takes(p):
		return Door{}, Pkt{}, false
	case goesOut(p):
		return w.passOut(p)
	case comesIn(p):
		return w.passIn(p)
	}
	return w.tell(), Pkt{}, false
}
