package impl

import (
	"strconv"
	"strings"
)

// Addresses: those inside, those outside, and that of the door.
const (
	InsideMax  = 3
	OutsideMin = 4
	OutsideMax = 6
	DoorAddr   = 9
)

// Ports: those of hosts, and those of the door.
const (
	PortMax = 9
	DoorMin = 10
	DoorMax = 17
)

// End is where something comes from, or goes to.
type End struct {
	Addr int
	Port int
}

// owner is an end that somebody owns, going by its address; its type says on which side.
// Hosts and the door count their ports apart, so the type must be asked whether the port is its own.
type owner interface {
	ownsPort() bool
}

type insideOwner End

type outsideOwner End

type doorOwner End

func (o insideOwner) ownsPort() bool {
	return hostPort(o.Port)
}

func (o outsideOwner) ownsPort() bool {
	return hostPort(o.Port)
}

func (o doorOwner) ownsPort() bool {
	return o.Port >= DoorMin && o.Port <= DoorMax
}

func hostPort(port int) bool {
	return port >= 1 && port <= PortMax
}

// ownerOf is nil of an address that nobody has.
func ownerOf(e End) owner {
	switch {
	case e.Addr >= 1 && e.Addr <= InsideMax:
		return insideOwner(e)
	case e.Addr >= OutsideMin && e.Addr <= OutsideMax:
		return outsideOwner(e)
	case e.Addr == DoorAddr:
		return doorOwner(e)
	}
	return nil
}

// side is where an end is.
type side int

const (
	sideNone side = iota
	sideInside
	sideOutside
	sideDoor
)

// sideOf is sideNone just of what is not any end.
func sideOf(e End) side {
	o := ownerOf(e)
	if o == nil || !o.ownsPort() {
		return sideNone
	}
	switch o.(type) {
	case insideOwner:
		return sideInside
	case outsideOwner:
		return sideOutside
	case doorOwner:
		return sideDoor
	}
	return sideNone
}

// EndInside says whether an end is inside.
func EndInside(e End) bool {
	return sideOf(e) == sideInside
}

// EndOutside says whether an end is outside.
func EndOutside(e End) bool {
	return sideOf(e) == sideOutside
}

// EndDoor says whether an end is one of the door.
func EndDoor(e End) bool {
	return sideOf(e) == sideDoor
}

// EndText is the text of an end.
func EndText(e End) string {
	if sideOf(e) == sideNone {
		return ""
	}
	return strconv.Itoa(e.Addr) + ":" + strconv.Itoa(e.Port)
}

// EndRead is the end of a text.
func EndRead(text string) (End, bool) {
	addr, port, found := strings.Cut(text, ":")
	if !found {
		return End{}, false
	}
	a, errAddr := strconv.Atoi(addr)
	p, errPort := strconv.Atoi(port)
	if errAddr != nil || errPort != nil {
		return End{}, false
	}
	e := End{Addr: a, Port: p}
	// Atoi takes signs and noughts ahead; only the one text that EndText writes is the end's own.
	if EndText(e) != text {
		return End{}, false
	}
	return e, true
}
