package tape

import "shallot/api"

// Acks are a run's acknowledgements. Its list is never written to, so copies may share it.
type Acks struct{ list []api.Ack }

// NewAcks returns a copy of the list.
func NewAcks(list ...api.Ack) (Acks, api.Errno) {
	// Ahead of the length, since ErrArg is the lesser number.
	for _, a := range list {
		if a.At < 0 {
			return Acks{}, api.ErrArg
		}
	}
	if len(list) > api.MaxAcks {
		return Acks{}, api.ErrSize
	}
	return Acks{append([]api.Ack(nil), list...)}, api.OK
}

// Acked reports whether there is an acknowledgement of this Id by now.
func (a Acks) Acked(id uint64, now int) bool {
	at, ok := a.First(id)
	return ok && at <= now
}

// First returns the tick of the first acknowledgement of this Id.
func (a Acks) First(id uint64) (int, bool) {
	least, found := 0, false
	for _, k := range a.list {
		if k.Id == id && (!found || k.At < least) {
			least, found = k.At, true
		}
	}
	return least, found
}
