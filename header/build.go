package header

import (
	"shallot/api"
	"shallot/chacha"
	"shallot/codec"
	"shallot/command"
	"shallot/keys"
	"shallot/mac"
)

// Filler returns what the zero bytes that the hops append have become at the last hop.
func Filler(steps ...keys.Step) ([]byte, api.Errno) {
	if !routed(steps) {
		return nil, api.ErrSize
	}
	var filler []byte
	for _, s := range steps[:len(steps)-1] {
		flow, _ := chacha.New(s.Stream[:])
		// A hop turns Beta and 48 zero bytes, and the filler so far is the end of that Beta.
		_, _ = flow.Next(api.BetaSize - len(filler))
		filler, _ = flow.Turn(filler, make([]byte, api.SlotSize))
	}
	return filler, api.OK
}

// Build returns the header that opens to these commands, hop by hop.
func Build(cmds []api.Command, steps ...keys.Step) (Header, api.Errno) {
	if e := checkBuild(cmds, steps); e != api.OK {
		return Header{}, e
	}
	last := len(steps) - 1
	filler, _ := Filler(steps...)
	h := innermost(cmds[last], steps[last], filler)
	for i := last - 1; i >= 0; i-- {
		h = h.wrap(cmds[i], steps[i])
	}
	return h, api.OK
}

// innermost returns the header of the last hop. Its end is not turned, since the filler already is what that hop receives.
func innermost(c api.Command, s keys.Step, filler []byte) Header {
	told, _ := command.Encode(c)
	plain, _ := codec.Pad(told, api.BetaSize-len(filler))
	turned, _ := chacha.Turn(s.Stream[:], plain)
	return tagged(s, codec.Join(turned, filler))
}

// wrap returns the header of the hop ahead. It drops the last slot, since that hop makes it again out of zero bytes.
func (h Header) wrap(c api.Command, s keys.Step) Header {
	told, _ := command.Encode(c)
	beta, _ := chacha.Turn(s.Stream[:], told, h.Tag[:], h.Beta[:api.BetaSize-api.SlotSize])
	return tagged(s, beta)
}

// tagged returns the header of a step with this Beta.
func tagged(s keys.Step, beta []byte) Header {
	tag := mac.Short(s.Mac[:], s.Alpha[:], beta)
	return Header{Alpha: s.Alpha, Tag: [api.TagSize]byte(tag), Beta: [api.BetaSize]byte(beta)}
}

// checkBuild returns the error of Build with the least number.
func checkBuild(cmds []api.Command, steps []keys.Step) api.Errno {
	e := checkCommands(cmds)
	// Only ErrArg has a lesser number than ErrSize.
	if e != api.ErrArg && (!routed(steps) || len(cmds) != len(steps)) {
		return api.ErrSize
	}
	return e
}

// checkCommands returns the error with the least number that one of the commands has by itself or at its place.
func checkCommands(cmds []api.Command) api.Errno {
	least := api.OK
	for i, c := range cmds {
		e := command.Check(c)
		relays, last := c.Kind == api.Relay, i == len(cmds)-1
		if e == api.OK && relays == last {
			e = api.ErrForm
		}
		if e != api.OK && (least == api.OK || e < least) {
			least = e
		}
	}
	return least
}

// routed reports whether these can be the steps of a route.
func routed(steps []keys.Step) bool { return len(steps) >= 1 && len(steps) <= api.MaxHops }
