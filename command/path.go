package command

import (
	"shallot/api"
	"shallot/dir"
)

// maxFlags is what fits into a command's one byte for them.
const maxFlags = 255

// Path returns what each hop of a route is told.
func Path(last api.Command, hops ...dir.Hop) ([]api.Command, api.Errno) {
	if e := checkPath(last, hops); e != api.OK {
		return nil, e
	}
	path := make([]api.Command, len(hops))
	for i, h := range hops {
		path[i] = api.Command{Kind: api.Relay, Flags: byte(h.Flags), Delay: uint32(h.Delay)}
		if i > 0 {
			path[i-1].Next = h.Id
		}
	}
	end := &path[len(path)-1]
	end.Kind, end.Mark = last.Kind, last.Mark
	return path, api.OK
}

// checkPath returns the error of Path with the least number.
func checkPath(last api.Command, hops []dir.Hop) api.Errno {
	last.Delay = 0 // it is not used, so it may be anything
	e := Check(last)
	switch {
	case e == api.ErrArg || last.Kind == api.Relay || !ranged(hops):
		return api.ErrArg
	case len(hops) < 1 || len(hops) > api.MaxHops:
		return api.ErrSize
	case !numbered(hops[1:]):
		return api.ErrForm
	}
	return e
}

// ranged reports whether the delays and flags of all hops can be told.
func ranged(hops []dir.Hop) bool {
	for _, h := range hops {
		if h.Delay < 0 || h.Delay > api.MaxDelay || h.Flags < 0 || h.Flags > maxFlags {
			return false
		}
	}
	return true
}

// numbered reports whether packets can be sent on to all hops.
func numbered(hops []dir.Hop) bool {
	for _, h := range hops {
		if h.Id == 0 {
			return false
		}
	}
	return true
}
