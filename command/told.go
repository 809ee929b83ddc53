package command

import "shallot/api"

// Told is a command as a hop reads it.
type Told struct {
	api.Command
}

// Last reports whether the packet ends here.
func (t Told) Last() bool { return t.Kind != api.Relay }

// Wait returns the delay.
func (t Told) Wait() int { return int(t.Delay) }

// Tell returns each command as a Told.
func Tell(list ...api.Command) []Told {
	told := make([]Told, len(list))
	for i, c := range list {
		told[i] = Told{Command: c}
	}
	return told
}
