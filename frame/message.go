package frame

import (
	"strings"

	"shallot/api"
)

// Message is what was received of one message. It has arrays and strings and no slice, so that a copy of it is independent.
type Message struct {
	Id    uint64
	count int // that of the parts that were kept, 0 if there are none
	kept  [api.MaxParts]bool
	data  [api.MaxParts]string
}

// Take keeps those of the parts that belong to the message and are new.
func (m *Message) Take(parts ...api.Part) api.Errno {
	first := api.OK
	for _, p := range parts {
		e := m.take(p)
		if first == api.OK {
			first = e
		}
	}
	return first
}

// take keeps one part, or returns why it doesn't.
func (m *Message) take(p api.Part) api.Errno {
	switch {
	case p.Kind != api.Data || Check(p) != api.OK:
		return api.ErrForm
	case p.Id != m.Id:
		return api.ErrName
	case m.count != 0 && p.Count != m.count || m.kept[p.Index]:
		return api.ErrForm
	}
	m.count = p.Count
	m.kept[p.Index] = true
	m.data[p.Index] = string(p.Data)
	return api.OK
}

// Missing returns how many parts are missing.
func (m *Message) Missing() int {
	if m.count == 0 {
		return 1
	}
	missing := m.count
	for _, kept := range m.kept {
		if kept {
			missing--
		}
	}
	return missing
}

// Bytes returns the message.
func (m *Message) Bytes() ([]byte, api.Errno) {
	if m.Missing() > 0 {
		return nil, api.ErrSize
	}
	return []byte(strings.Join(m.data[:], "")), api.OK
}

// Inbox is a message with the name of its recipient.
type Inbox struct {
	Message
	Name string
}
