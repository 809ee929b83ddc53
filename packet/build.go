package packet

import (
	"slices"

	"shallot/api"
	"shallot/command"
	"shallot/dir"
	"shallot/frame"
	"shallot/header"
	"shallot/keys"
	"shallot/wide"
)

// Build returns the packet that goes along the hops.
func Build(x []byte, last api.Command, body []byte, hops ...dir.Hop) (Packet, api.Errno) {
	cmds, told := command.Path(last, hops...)
	steps, met := keys.Schedule(x, dir.Publics(hops...)...)
	if e := Least(told, met, sized(body)); e != api.OK {
		return Packet{}, e
	}
	h, _ := header.Build(cmds, steps...) // always OK: the commands are those of a path, one for each step
	pays := keys.Pays(steps...)
	slices.Reverse(pays) // the first hop opens what was sealed last
	sealed, _ := wide.SealAll(body, pays...)
	return Packet{Header: h, Body: [api.BodySize]byte(sealed)}, api.OK
}

// sized returns what is wrong with the length of a payload.
func sized(body []byte) api.Errno {
	if len(body) != api.BodySize {
		return api.ErrSize
	}
	return api.OK
}

// Send returns the packet that brings a part to the last hop.
func Send(x []byte, p api.Part, hops ...dir.Hop) (Packet, api.Errno) {
	body, framed := frame.Frame(p)
	if framed != api.OK {
		body = make([]byte, api.BodySize) // so that Build tells its other errors alone
	}
	kind, kept := ending(p)
	q, built := Build(x, api.Command{Kind: kind}, body, hops...)
	if e := Least(framed, kept, built); e != api.OK {
		return Packet{}, e
	}
	return q, api.OK
}

// ending returns the kind of the last command for a part, and ErrForm for a Back, which only goes by a reply block. The kind is one that Build takes, whatever the part is.
func ending(p api.Part) (byte, api.Errno) {
	switch p.Kind {
	case api.Empty:
		return api.Cover, api.OK
	case api.Back:
		return api.Deliver, api.ErrForm
	}
	return api.Deliver, api.OK
}

// Hide returns a packet with nothing in it.
func Hide(x []byte, hops ...dir.Hop) (Packet, api.Errno) {
	return Send(x, api.Part{Kind: api.Empty, Count: 1}, hops...)
}
