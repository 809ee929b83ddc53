package frame_test

import (
	"slices"
	"testing"

	"shallot/api"
	"shallot/frame"
)

// holder is what a Message and an Inbox can do.
type holder interface {
	Take(...api.Part) api.Errno
	Missing() int
	Bytes() ([]byte, api.Errno)
}

// plain is a message as the document tells it: its number and the parts that were kept.
type plain struct {
	id   uint64
	kept []api.Part
}

// take adds a part that is kept, or returns the error.
func (m *plain) take(p api.Part) api.Errno {
	if p.Kind != 1 || wrong(p) != api.OK {
		return api.ErrForm
	}
	if p.Id != m.id {
		return api.ErrName
	}
	for _, q := range m.kept {
		if q.Count != p.Count || q.Index == p.Index {
			return api.ErrForm
		}
	}
	m.kept = append(slices.Clip(m.kept), p)
	return api.OK
}

// missing returns how many parts are missing.
func (m *plain) missing() int {
	if len(m.kept) == 0 {
		return 1
	}
	return m.kept[0].Count - len(m.kept)
}

// bytes returns the message, of which no part is missing.
func (m *plain) bytes() []byte {
	var out []byte
	for i := range m.kept {
		for _, p := range m.kept {
			if p.Index == i {
				out = append(out, p.Data...)
			}
		}
	}
	return out
}

// holds compares a message with the plain one.
func holds(t *testing.T, h holder, m plain) {
	t.Helper()
	if n := h.Missing(); n != m.missing() {
		t.Fatalf("Missing with the parts %v: %d", m.kept, n)
	}
	b, e := h.Bytes()
	if m.missing() > 0 && (e != api.ErrSize || len(b) != 0) || m.missing() == 0 && (e != api.OK || !slices.Equal(b, m.bytes())) {
		t.Fatalf("Bytes with the parts %v = %v, %v", m.kept, b, e)
	}
}

// takes compares the error of Take.
func takes(t *testing.T, h holder, want api.Errno, list ...api.Part) {
	t.Helper()
	if e := h.Take(list...); e != want {
		t.Fatalf("Take(%v) = %v, not %v", list, e, want)
	}
}

// offers returns parts for a message of this number: such as fit together, and such as don't.
func offers(id uint64) []api.Part {
	return []api.Part{
		{Kind: 1, Id: id, Index: 0, Count: 2, Data: some(450)},
		{Kind: 1, Id: id, Index: 1, Count: 2, Data: some(3)},
		{Kind: 1, Id: id, Index: 1, Count: 2, Data: some(4)},
		{Kind: 1, Id: id, Index: 0, Count: 1},
		{Kind: 1, Id: id, Index: 2, Count: 3, Data: some(1)},
		{Kind: 1, Id: id, Index: 0, Count: 3},
		{Kind: 1, Id: id, Index: 1, Count: 3, Data: some(2)},
		{Kind: 1, Id: id + 1, Index: 0, Count: 2, Data: some(5)},
		{Kind: 1, Id: id + 1, Index: 2, Count: 2},
		{Kind: 2, Count: 1},
		{Kind: 3, Id: id, Count: 1, Data: some(6)},
		{Kind: 1, Id: id, Count: 0},
	}
}

// TestMessageExample is of P11.5: the document's example.
func TestMessageExample(t *testing.T) {
	msg := some(451)
	list := split(t, 7, msg)
	m := &frame.Message{Id: 7}
	takes(t, m, api.ErrName, list[1], api.Part{Kind: 1, Id: 8, Count: 2}, list[0])
	holds(t, m, plain{7, list})
	if b, e := m.Bytes(); e != api.OK || !slices.Equal(b, msg) || m.Missing() != 0 || m.Id != 7 {
		t.Errorf("Bytes = %v, %v; Missing %d, Id %d", b, e, m.Missing(), m.Id)
	}
}

// TestMessageAnyCalls is of P11.5: each sequence of four such parts, one by one, against the plain message.
func TestMessageAnyCalls(t *testing.T) {
	for _, id := range []uint64{0, 7} {
		list := offers(id)
		var walk func(m frame.Message, p plain, depth int)
		walk = func(m frame.Message, p plain, depth int) {
			holds(t, &m, p)
			if depth == 0 {
				return
			}
			for _, part := range list {
				next, want := m, p
				takes(t, &next, want.take(part), part)
				walk(next, want, depth-1)
			}
		}
		walk(frame.Message{Id: id}, plain{id: id}, 4)
	}
}

// TestMessageManyParts is of P11.5: three parts at once are as one by one, with the error of the first that has one.
func TestMessageManyParts(t *testing.T) {
	list := offers(3)
	for _, a := range list {
		for _, b := range list {
			for _, c := range list {
				m, want, first := frame.Message{Id: 3}, plain{id: 3}, api.OK
				for _, p := range []api.Part{a, b, c} {
					if e := want.take(p); first == api.OK {
						first = e
					}
				}
				takes(t, &m, first, a, b, c)
				holds(t, &m, want)
			}
		}
	}
}

// TestMessageErrors is of P11.5: the first error that applies to a part.
func TestMessageErrors(t *testing.T) {
	m := &frame.Message{Id: 7}
	takes(t, m, api.OK)
	takes(t, m, api.OK, []api.Part{}...)
	takes(t, m, api.OK, api.Part{Kind: 1, Id: 7, Index: 1, Count: 3, Data: some(2)})
	for _, c := range []struct {
		p    api.Part
		want api.Errno
	}{
		{api.Part{}, api.ErrForm},
		{api.Part{Kind: 4, Id: 7, Count: 3}, api.ErrForm},
		{api.Part{Kind: 2, Count: 1}, api.ErrForm},
		{api.Part{Kind: 3, Id: 7, Count: 1}, api.ErrForm},
		{api.Part{Kind: 1, Id: 7, Count: 3, Data: some(451)}, api.ErrForm},
		{api.Part{Kind: 1, Id: 7, Count: 3, Index: 3}, api.ErrForm},
		{api.Part{Kind: 1, Id: 7, Count: 3, Index: -1}, api.ErrForm},
		{api.Part{Kind: 1, Id: 7, Count: 17, Index: 16}, api.ErrForm},
		{api.Part{Kind: 1, Id: 8, Count: 17}, api.ErrForm},
		{api.Part{Kind: 3, Id: 8, Count: 1}, api.ErrForm},
		{api.Part{Kind: 1, Id: 8, Count: 3}, api.ErrName},
		{api.Part{Kind: 1, Id: 0, Count: 3}, api.ErrName},
		{api.Part{Kind: 1, Id: 8, Count: 3, Index: 1}, api.ErrName},
		{api.Part{Kind: 1, Id: 8, Count: 4}, api.ErrName},
		{api.Part{Kind: 1, Id: 7, Count: 3, Index: 1}, api.ErrForm},
		{api.Part{Kind: 1, Id: 7, Count: 2}, api.ErrForm},
		{api.Part{Kind: 1, Id: 7, Count: 4, Index: 3}, api.ErrForm},
	} {
		takes(t, m, c.want, c.p)
		if m.Missing() != 2 {
			t.Errorf("Missing after Take(%v): %d", c.p, m.Missing())
		}
	}
	takes(t, m, api.OK, api.Part{Kind: 1, Id: 7, Index: 2, Count: 3, Data: some(1)}, api.Part{Kind: 1, Id: 7, Count: 3})
	if b, e := m.Bytes(); e != api.OK || !slices.Equal(b, []byte{1, 2, 1}) {
		t.Errorf("Bytes = %v, %v", b, e)
	}
}

// TestMessageWhole is of P11.5: messages of every number of parts, which come in backwards, each twice.
func TestMessageWhole(t *testing.T) {
	msg := some(7200)
	for count := 1; count <= 16; count++ {
		for _, n := range []int{count*450 - 449, count * 450} {
			m := frame.Message{Id: 1}
			list := split(t, 1, msg[:n])
			for i := count - 1; i >= 0; i-- {
				takes(t, &m, api.OK, list[i])
				takes(t, &m, api.ErrForm, list[i])
				holds(t, &m, plain{1, list[i:]})
			}
			takes(t, &m, api.ErrForm, list...)
			holds(t, &m, plain{1, list})
		}
	}
}

// TestMessageZero is of P11.5: the zero Message waits for the message 0.
func TestMessageZero(t *testing.T) {
	var m frame.Message
	holds(t, &m, plain{})
	takes(t, &m, api.ErrName, api.Part{Kind: 1, Id: 1, Count: 1})
	holds(t, &m, plain{})
	takes(t, &m, api.OK, api.Part{Kind: 1, Count: 1})
	if b, e := m.Bytes(); e != api.OK || len(b) != 0 || m.Missing() != 0 {
		t.Errorf("Bytes = %v, %v; Missing %d", b, e, m.Missing())
	}
}

// TestMessageCopy is of P11.5 and P11.6: a copy and its original go on by themselves.
func TestMessageCopy(t *testing.T) {
	list := split(t, 0, some(1400))
	var m frame.Message
	takes(t, &m, api.OK, list[0], list[1])
	twin := m
	other := list[2]
	other.Data = some(7)
	takes(t, &twin, api.OK, other)
	holds(t, &m, plain{0, list[:2]})
	takes(t, &m, api.OK, list[3])
	holds(t, &twin, plain{0, []api.Part{list[0], list[1], other}})
	takes(t, &twin, api.OK, list[3])
	takes(t, &m, api.OK, list[2])
	holds(t, &m, plain{0, list})
	holds(t, &twin, plain{0, []api.Part{list[0], list[1], other, list[3]}})
}

// TestInbox is of P11.5: the methods of an Inbox are those of the message inside.
func TestInbox(t *testing.T) {
	msg := some(901)
	list := split(t, 7, msg)
	box := frame.Inbox{Message: frame.Message{Id: 7}, Name: "al"}
	holds(t, &box, plain{id: 7})
	takes(t, &box, api.ErrName, list[2], api.Part{Kind: 1, Count: 3}, list[2], list[0])
	holds(t, &box, plain{7, []api.Part{list[2], list[0]}})
	holds(t, &box.Message, plain{7, []api.Part{list[2], list[0]}})
	twin := box
	takes(t, &box.Message, api.OK, list[1])
	holds(t, &box, plain{7, list})
	holds(t, &twin, plain{7, []api.Part{list[2], list[0]}})
	if box.Id != 7 || box.Name != "al" {
		t.Errorf("the number %d and the name %q", box.Id, box.Name)
	}
	var zero frame.Inbox
	zero.Id = 2
	takes(t, &zero, api.OK, api.Part{Kind: 1, Id: 2, Count: 1, Data: some(5)})
	holds(t, &zero, plain{2, []api.Part{{Kind: 1, Id: 2, Count: 1, Data: some(5)}}})
}
