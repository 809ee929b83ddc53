package sha

import (
	"shallot/api"
	"shallot/codec"
)

// maxLabel is the greatest length that one byte tells.
const maxLabel = 255

// Hash is what was written so far. It has arrays and no slices, so that a copy of it is independent.
type Hash struct {
	state [8]uint32       // behind the whole blocks; while there is none, see chain
	rest  [blockSize]byte // begins with the size % blockSize bytes behind the whole blocks
	size  int
}

// New returns a hash to which the parts were written.
func New(parts ...[]byte) *Hash { return new(Hash).Write(parts...) }

// Write appends the parts, and returns h itself.
func (h *Hash) Write(parts ...[]byte) *Hash {
	for _, p := range parts {
		h.add(p)
	}
	return h
}

func (h *Hash) add(part []byte) {
	for len(part) > 0 {
		state := h.chain()
		n := copy(h.rest[h.size%blockSize:], part)
		part = part[n:]
		h.size += n
		if h.size%blockSize == 0 {
			h.state = compress(state, h.rest[:])
		}
	}
}

// chain returns the state behind the whole blocks. The zero Hash must be an empty one, so a hash without a whole block has no state of its own yet.
func (h *Hash) chain() [8]uint32 {
	if h.size < blockSize {
		return Start()
	}
	return h.state
}

// Sum returns the hash of what was written; the padding goes to a twin, so that more can be written.
func (h *Hash) Sum() [32]byte {
	end := h.Twin().Write(padding(h.size))
	var out [32]byte
	for i, w := range end.chain() {
		word, _ := codec.Put(codec.Big, wordSize, uint64(w))
		copy(out[wordSize*i:], word)
	}
	return out
}

// Len returns how many bytes were written.
func (h *Hash) Len() int { return h.size }

// Twin returns an independent hash with the same bytes.
func (h *Hash) Twin() *Hash {
	twin := *h
	return &twin
}

// Labelled is a Hash that begins with a label.
type Labelled struct {
	Hash
	name string
}

// Label returns a hash to which the label's length, as one byte, and the label were written.
func Label(label string) (*Labelled, api.Errno) {
	if len(label) > maxLabel {
		return nil, api.ErrSize
	}
	l := &Labelled{name: label}
	l.Write([]byte{byte(len(label))}, []byte(label))
	return l, api.OK
}

// Name returns the label.
func (l *Labelled) Name() string { return l.name }
