package buffer_test

import (
	"bytes"
	"slices"
	"testing"

	"paintbox/api"
	"paintbox/buffer"
)

// chance answers numbers that look like chance and are the same each time.
type chance uint64

// below answers a number from 0 to n less one.
func (c *chance) below(n int) int {
	*c = *c*6364136223846793005 + 1442695040888963407
	return int(uint64(*c)>>33) % n
}

// bytes answers so many bytes.
func (c *chance) bytes(n int) []byte {
	list := make([]byte, n)
	for i := range list {
		list[i] = byte(c.below(256))
	}
	return list
}

// kept is one buffer in the model.
type kept struct {
	id    int
	bytes []byte
}

// model is two stores of one budget in the chapter's words: lists of buffers, of which the bytes are counted anew each time.
type model struct {
	all    int
	others int // what others have taken
	stores [2][]kept
}

// left counts what is not taken.
func (m *model) left() int {
	n := m.all - m.others
	for _, s := range m.stores {
		for _, k := range s {
			n -= len(k.bytes)
		}
	}
	return n
}

// place answers where a store has a buffer: -1, if nowhere.
func (m *model) place(which, id int) int {
	return slices.IndexFunc(m.stores[which], func(k kept) bool { return k.id == id })
}

// size answers how many bytes a buffer has: 0, if there is none.
func (m *model) size(which, id int) int {
	if p := m.place(which, id); p >= 0 {
		return len(m.stores[which][p].bytes)
	}
	return 0
}

// data is Data in the chapter's words.
func (m *model) data(which, id int, b []byte) api.Errno {
	if id < 1 {
		return api.ErrArg
	}
	if len(b) > m.left()+m.size(which, id) {
		return api.ErrFull
	}
	m.stores[which] = slices.DeleteFunc(m.stores[which], func(k kept) bool { return k.id == id })
	m.stores[which] = append(m.stores[which], kept{id, slices.Clone(b)})
	return api.OK
}

// piece answers n bytes of a buffer from at on, and why there are none.
func (m *model) piece(which, id, at, n int) ([]byte, api.Errno) {
	p := m.place(which, id)
	if p < 0 {
		return nil, api.ErrNone
	}
	list := m.stores[which][p].bytes
	if at < 0 || n < 0 || at+n > len(list) {
		return nil, api.ErrArg
	}
	return list[at : at+n], api.OK
}

// drop is Drop in the chapter's words.
func (m *model) drop(which, id int) api.Errno {
	p := m.place(which, id)
	if p < 0 {
		return api.ErrNone
	}
	m.stores[which] = slices.Delete(m.stores[which], p, p+1)
	return api.OK
}

// take is Take in the chapter's words.
func (m *model) take(n int) api.Errno {
	if n < 0 {
		return api.ErrArg
	}
	if n > m.left() {
		return api.ErrFull
	}
	m.others += n
	return api.OK
}

// give is Give in the chapter's words, for others who give back what they took.
func (m *model) give(n int) api.Errno {
	if n < 0 || n > m.all-m.left() {
		return api.ErrArg
	}
	m.others -= n
	return api.OK
}

// sight is all that is to be told of a store.
func (m *model) sight(which int) sight {
	list := slices.Clone(m.stores[which])
	slices.SortFunc(list, func(a, b kept) int { return a.id - b.id })
	v := sight{left: m.left()}
	for _, k := range list {
		v.list = append(v.list, k.id)
		v.buffers = append(v.buffers, k.bytes)
	}
	return v
}

// step does one call of chance in both and holds the answers against each other.
func step(t *testing.T, c *chance, m *model, b *buffer.Budget, stores [2]*buffer.Store) {
	t.Helper()
	which, id := c.below(2), c.below(6)-1
	s := stores[which]
	at, n := c.below(m.all+3)-1, c.below(m.all+3)-1
	if c.below(2) == 0 {
		at, n = at/3, n/3
	}
	list := c.bytes(max(0, n))
	switch c.below(8) {
	case 0, 1:
		is(t, "Data", s.Data(id, list), m.data(which, id, list))
	case 2, 3:
		piece, want := m.piece(which, id, at, len(list))
		copy(piece, list)
		is(t, "Sub", s.Sub(id, at, list), want)
	case 4, 5:
		piece, want := m.piece(which, id, at, n)
		got, err := s.Get(id, at, n)
		is(t, "Get", err, want)
		if !bytes.Equal(got, piece) {
			t.Errorf("Get(%d, %d, %d) = % x; want % x", id, at, n, got, piece)
		}
	case 6:
		is(t, "Drop", s.Drop(id), m.drop(which, id))
	case 7:
		if c.below(2) == 0 {
			is(t, "Take", b.Take(n), m.take(n))
		} else {
			n = min(n, m.others)
			is(t, "Give", b.Give(n), m.give(n))
		}
	}
}

// P7.1 to P7.4: rows of calls of chance, of two stores that share a budget with others, held against the chapter's words behind each call.
func TestRows(t *testing.T) {
	c := chance(7)
	for row := range 200 {
		m := &model{all: row % 24}
		b := budget(t, m.all)
		stores := [2]*buffer.Store{store(t, b), store(t, b)}
		for range 150 {
			step(t, &c, m, b, stores)
			for which, s := range stores {
				same(t, b, s, m.sight(which))
			}
			if t.Failed() {
				t.Fatalf("row %d", row)
			}
		}
	}
}
