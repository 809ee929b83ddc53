package wide

import "shallot/api"

// Cipher has a key. It keeps nothing that is made of the key, since its Key may be set by anyone.
type Cipher struct {
	Key [32]byte
}

// New returns a cipher with this key.
func New(key []byte) (Cipher, api.Errno) {
	if len(key) != api.KeySize {
		return Cipher{}, api.ErrSize
	}
	return Cipher{Key: [32]byte(key)}, api.OK
}

// Seal is the function Seal with its key.
func (c Cipher) Seal(block []byte) ([]byte, api.Errno) { return Seal(c.Key[:], block) }

// Open is the function Open with its key.
func (c Cipher) Open(block []byte) ([]byte, api.Errno) { return Open(c.Key[:], block) }

// Sealed is a block together with its cipher.
type Sealed struct {
	Cipher
	Block []byte
}

// Plain returns what its cipher opens the block to.
func (s Sealed) Plain() ([]byte, api.Errno) { return s.Open(s.Block) }
