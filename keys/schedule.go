package keys

import (
	"shallot/api"
	"shallot/curve"
)

// Schedule returns the steps of all hops, as the sender makes them.
func Schedule(x []byte, pubs ...[]byte) ([]Step, api.Errno) {
	if len(x) != api.KeySize || !routed(pubs) {
		return nil, api.ErrSize
	}
	alpha, _ := curve.Public(x)
	scalars := [][]byte{x}
	steps := make([]Step, len(pubs))
	for i, pub := range pubs {
		secret, e := curve.Chain(pub, scalars...)
		if e != api.OK {
			return nil, e
		}
		steps[i] = newStep(alpha, secret)
		// No error comes of it: a public value isn't low, and no scalar makes it so.
		alpha, _ = steps[i].Next()
		scalars = append(scalars, steps[i].Blind[:])
	}
	return steps, api.OK
}

// routed reports whether these can be the public keys of a route. Schedule asks ahead of its first secret, since ErrSize comes before an ErrZero of that one.
func routed(pubs [][]byte) bool {
	if len(pubs) < 1 || len(pubs) > api.MaxHops {
		return false
	}
	for _, pub := range pubs {
		if len(pub) != api.KeySize {
			return false
		}
	}
	return true
}
