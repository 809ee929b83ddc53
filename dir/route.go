package dir

import "shallot/api"

// maxFlags is what fits into the one byte that a packet has for them.
const maxFlags = 255

// Hop is a node on a route, with what a packet says there.
type Hop struct {
	Node
	Delay, Flags int
}

// Route returns the hop of each stop.
func Route(d []api.Node, stops ...api.Stop) ([]Hop, api.Errno) {
	// Ahead of all else, and of too many stops too, since ErrArg is the least number.
	for _, s := range stops {
		if s.Delay < 0 || s.Delay > api.MaxDelay || s.Flags < 0 || s.Flags > maxFlags {
			return nil, api.ErrArg
		}
	}
	if len(stops) < 1 || len(stops) > api.MaxHops {
		return nil, api.ErrSize
	}
	hops := make([]Hop, len(stops))
	for i, s := range stops {
		// The first of these tells the errors of Check, and no later one does.
		n, e := Find(d, s.Name)
		if e != api.OK {
			return nil, e
		}
		hops[i] = Hop{Node: n, Delay: s.Delay, Flags: s.Flags}
	}
	return hops, api.OK
}

// Publics returns the public keys of the hops.
func Publics(hops ...Hop) [][]byte {
	keys := make([][]byte, len(hops))
	for i, h := range hops {
		keys[i] = h.Public()
	}
	return keys
}

// Total returns the sum of the hops' delays.
func Total(hops ...Hop) int {
	sum := 0
	for _, h := range hops {
		sum += h.Delay
	}
	return sum
}
