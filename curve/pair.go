package curve

import "shallot/api"

// Pair is a private and a public key.
type Pair struct {
	Priv, Pub [32]byte
}

// NewPair returns the private key as it was passed, with its public one.
func NewPair(priv []byte) (Pair, api.Errno) {
	pub, e := Public(priv)
	if e != api.OK {
		return Pair{}, e
	}
	return Pair{Priv: [32]byte(priv), Pub: pub}, api.OK
}

// Shared returns the secret that the pair has with the owner of another public key.
func (p Pair) Shared(pub []byte) ([32]byte, api.Errno) { return Mult(p.Priv[:], pub) }

// Named is a pair with a name.
type Named struct {
	Pair
	Name string
}
