package tape

import "shallot/api"

// Feed is all that a run is fed with.
type Feed struct {
	Tape
	Clock
	Acks
}

// NewFeed returns a feed at its beginning.
func NewFeed(b []byte, acks ...api.Ack) (*Feed, api.Errno) {
	// The acknowledgements go first: they may have an ErrArg, the lesser number.
	a, e := NewAcks(acks...)
	if e != api.OK {
		return nil, e
	}
	if len(b) > api.MaxTape {
		return nil, api.ErrSize
	}
	return &Feed{Tape: *NewTape(b), Acks: a}, api.OK
}

// Heard reports whether a message is acknowledged by now.
func (f *Feed) Heard(id uint64) bool { return f.Acked(id, f.Now()) }
