package frame

import (
	"shallot/api"
	"shallot/codec"
)

// Count returns how many parts a message of n bytes has.
func Count(n int) (int, api.Errno) {
	if n < 0 {
		return 0, api.ErrArg
	}
	if n > api.MaxMsg {
		return 0, api.ErrSize
	}
	return max(1, (n+api.Room-1)/api.Room), api.OK
}

// Split returns the parts of a message.
func Split(id uint64, msg []byte) ([]api.Part, api.Errno) {
	count, e := Count(len(msg))
	if e != api.OK {
		return nil, e
	}
	parts := make([]api.Part, count)
	for i := range parts {
		piece := msg[i*api.Room : min((i+1)*api.Room, len(msg))]
		parts[i] = api.Part{Kind: api.Data, Id: id, Index: i, Count: count, Data: codec.Join(piece)}
	}
	return parts, api.OK
}

// Merge returns the message of these parts, in whatever order they are.
func Merge(parts ...api.Part) ([]byte, api.Errno) {
	if len(parts) == 0 || len(parts) != parts[0].Count {
		return nil, api.ErrSize
	}
	m := Message{Id: parts[0].Id}
	if m.Take(parts...) != api.OK {
		return nil, api.ErrForm
	}
	return m.Bytes()
}
