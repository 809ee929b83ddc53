package tape

import "shallot/api"

// MaxTick is the last tick to which Move sets a clock.
const MaxTick = 1 << 40

// Clock is the current tick with the timers. It has an array and no slice, so that a copy of it is independent.
type Clock struct {
	now     int
	timers  [api.MaxTimers]timer // begins with the waiting ones, in the order in which they were set
	waiting int
}

type timer struct{ at, what int }

// Now returns the tick.
func (c *Clock) Now() int { return c.now }

// Waiting returns how many timers are waiting.
func (c *Clock) Waiting() int { return c.waiting }

// Set adds a timer that is due after so many ticks.
func (c *Clock) Set(after, what int) api.Errno {
	if after < 0 || after > api.MaxDelay {
		return api.ErrArg
	}
	if c.waiting == len(c.timers) {
		return api.ErrBound
	}
	c.timers[c.waiting] = timer{c.now + after, what}
	c.waiting++
	return api.OK
}

// Due removes the first timer that is due by that tick, advances the clock to it, and returns its value.
func (c *Clock) Due(until int) (int, bool) {
	i, ok := c.first()
	if !ok || c.timers[i].at > until {
		return 0, false
	}
	t := c.timers[i]
	c.remove(i)
	c.now = max(c.now, t.at) // not always t.at: Move may have passed the timer over
	return t.what, true
}

// first returns the index of the timer that is due first (of several, of the one that was set first), or false if none is waiting.
func (c *Clock) first() (int, bool) {
	least := 0
	for i, t := range c.timers[:c.waiting] {
		if t.at < c.timers[least].at {
			least = i
		}
	}
	return least, c.waiting > 0
}

// remove takes a timer out and keeps the order of the others.
func (c *Clock) remove(i int) {
	copy(c.timers[i:c.waiting], c.timers[i+1:c.waiting])
	c.waiting--
	c.timers[c.waiting] = timer{}
}

// Move sets the clock to a tick.
func (c *Clock) Move(to int) api.Errno {
	if to < c.now || to > MaxTick {
		return api.ErrArg
	}
	c.now = to
	return api.OK
}
