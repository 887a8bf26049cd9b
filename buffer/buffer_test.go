package buffer_test

import (
	"bytes"
	"math"
	"slices"
	"testing"

	"paintbox/api"
	"paintbox/buffer"
)

// budget answers a Budget of so many bytes.
func budget(t *testing.T, all int) *buffer.Budget {
	t.Helper()
	b, err := buffer.NewBudget(all)
	if err != api.OK || b == nil {
		t.Fatalf("NewBudget(%d): %d", all, err)
	}
	return b
}

// store answers a Store of a budget.
func store(t *testing.T, b *buffer.Budget) *buffer.Store {
	t.Helper()
	s, err := buffer.New(b)
	if err != api.OK || s == nil {
		t.Fatalf("New: %d", err)
	}
	return s
}

// pair answers a budget of so many bytes and a Store of it.
func pair(t *testing.T, all int) (*buffer.Budget, *buffer.Store) {
	t.Helper()
	b := budget(t, all)
	return b, store(t, b)
}

// is holds an error against the one that is wanted.
func is(t *testing.T, what string, got, want api.Errno) {
	t.Helper()
	if got != want {
		t.Errorf("%s: error %d; want %d", what, got, want)
	}
}

// left holds what a budget has left against what is wanted.
func left(t *testing.T, b *buffer.Budget, want int) {
	t.Helper()
	if got := b.Left(); got != want {
		t.Errorf("Left() = %d; want %d", got, want)
	}
}

// put makes bytes a buffer's.
func put(t *testing.T, s *buffer.Store, id int, list ...byte) {
	t.Helper()
	is(t, "Data", s.Data(id, list), api.OK)
}

// holds looks that a buffer has just these bytes, by Size and by Get.
func holds(t *testing.T, s *buffer.Store, id int, want ...byte) {
	t.Helper()
	if n, err := s.Size(id); err != api.OK || n != len(want) {
		t.Errorf("Size(%d) = %d, %d; want %d", id, n, err, len(want))
	}
	if got, err := s.Get(id, 0, len(want)); err != api.OK || !bytes.Equal(got, want) {
		t.Errorf("Get(%d, 0, %d) = % x, %d; want % x", id, len(want), got, err, want)
	}
}

// gone looks that there is no such buffer, by each call that asks for one.
func gone(t *testing.T, s *buffer.Store, id int) {
	t.Helper()
	if n, err := s.Size(id); err != api.ErrNone || n != 0 {
		t.Errorf("Size(%d) = %d, %d", id, n, err)
	}
	if got, err := s.Get(id, 0, 0); err != api.ErrNone || len(got) != 0 {
		t.Errorf("Get(%d, 0, 0) = % x, %d", id, got, err)
	}
	is(t, "Sub of none", s.Sub(id, 0, nil), api.ErrNone)
	is(t, "Drop of none", s.Drop(id), api.ErrNone)
	if slices.Contains(s.List(), id) {
		t.Errorf("List() = %v, with %d", s.List(), id)
	}
}

// lists holds the numbers of all buffers against what is wanted.
func lists(t *testing.T, s *buffer.Store, want ...int) {
	t.Helper()
	if got := s.List(); !slices.Equal(got, want) {
		t.Errorf("List() = %v; want %v", got, want)
	}
}

// sight is all that can be told of a store and its budget.
type sight struct {
	left    int
	list    []int
	buffers [][]byte
}

// look asks a store and its budget for all that can be told.
func look(t *testing.T, b *buffer.Budget, s *buffer.Store) sight {
	t.Helper()
	v := sight{left: b.Left(), list: s.List()}
	for _, id := range v.list {
		n, err := s.Size(id)
		is(t, "Size", err, api.OK)
		list, err := s.Get(id, 0, n)
		is(t, "Get", err, api.OK)
		v.buffers = append(v.buffers, list)
	}
	return v
}

// same holds all that can be told of a store and its budget against what is wanted.
func same(t *testing.T, b *buffer.Budget, s *buffer.Store, want sight) {
	t.Helper()
	got := look(t, b, s)
	if got.left != want.left {
		t.Errorf("%d are left; want %d", got.left, want.left)
	}
	if !slices.Equal(got.list, want.list) {
		t.Fatalf("the buffers %v; want %v", got.list, want.list)
	}
	for i, id := range want.list {
		if !bytes.Equal(got.buffers[i], want.buffers[i]) {
			t.Errorf("buffer %d has % x; want % x", id, got.buffers[i], want.buffers[i])
		}
	}
}

// ends are numbers far off, whose sums pass the greatest and the least number.
func ends() []int {
	return []int{math.MaxInt, math.MaxInt - 1, math.MinInt, math.MinInt + 1, 1 << 32, 1<<32 + 1, -1 << 32, math.MaxInt32, math.MinInt32, 1<<31 + 1}
}

// P7.1: a budget has from 0 to MaxBytes bytes, none of them taken at first.
func TestNewBudget(t *testing.T) {
	for _, all := range []int{0, 1, 2, 10, 255, 256, 65535, 65536, 262143, 262144} {
		b := budget(t, all)
		left(t, b, all)
		is(t, "one more than all", b.Take(all+1), api.ErrFull)
		is(t, "one of none", b.Give(1), api.ErrArg)
		is(t, "all", b.Take(all), api.OK)
		left(t, b, 0)
	}
	wrong := append(ends(), -1, -2, 262145, 262146, -262144)
	for _, all := range wrong {
		b, err := buffer.NewBudget(all)
		if b != nil || err != api.ErrArg {
			t.Errorf("NewBudget(%d) = %v, %d; want ErrArg", all, b, err)
		}
	}
	if api.MaxBytes != 262144 {
		t.Errorf("MaxBytes is %d", api.MaxBytes)
	}
}

// P7.1: Take takes what is left, and no more.
func TestTake(t *testing.T) {
	b := budget(t, 10)
	steps := []struct {
		n, left int
		err     api.Errno
	}{
		{0, 10, api.OK},
		{11, 10, api.ErrFull},
		{-1, 10, api.ErrArg},
		{4, 6, api.OK},
		{7, 6, api.ErrFull},
		{-4, 6, api.ErrArg},
		{0, 6, api.OK},
		{5, 1, api.OK},
		{2, 1, api.ErrFull},
		{1, 0, api.OK},
		{0, 0, api.OK},
		{1, 0, api.ErrFull},
		{-1, 0, api.ErrArg},
		{10, 0, api.ErrFull},
	}
	for _, s := range steps {
		if err := b.Take(s.n); err != s.err || b.Left() != s.left {
			t.Errorf("Take(%d): error %d, %d left; want %d, %d", s.n, err, b.Left(), s.err, s.left)
		}
	}
}

// P7.1: Give gives back what is taken, and no more.
func TestGive(t *testing.T) {
	b := budget(t, 10)
	is(t, "Take", b.Take(7), api.OK)
	steps := []struct {
		n, left int
		err     api.Errno
	}{
		{0, 3, api.OK},
		{8, 3, api.ErrArg},
		{10, 3, api.ErrArg},
		{-1, 3, api.ErrArg},
		{2, 5, api.OK},
		{6, 5, api.ErrArg},
		{-5, 5, api.ErrArg},
		{5, 10, api.OK},
		{0, 10, api.OK},
		{1, 10, api.ErrArg},
		{-1, 10, api.ErrArg},
	}
	for _, s := range steps {
		if err := b.Give(s.n); err != s.err || b.Left() != s.left {
			t.Errorf("Give(%d): error %d, %d left; want %d, %d", s.n, err, b.Left(), s.err, s.left)
		}
	}
	is(t, "Take of all that was given back", b.Take(10), api.OK)
}

// P7.1: numbers far off are refused like those near by, whatever is taken.
func TestBudgetFarOff(t *testing.T) {
	for _, all := range []int{0, 10, api.MaxBytes} {
		for _, taken := range []int{0, all / 2, all} {
			b := budget(t, all)
			is(t, "Take", b.Take(taken), api.OK)
			for _, n := range ends() {
				want := api.ErrFull
				if n < 0 {
					want = api.ErrArg
				}
				is(t, "Take far off", b.Take(n), want)
				is(t, "Give far off", b.Give(n), api.ErrArg)
				left(t, b, all-taken)
			}
		}
	}
}

// P7.1: budgets go by themselves.
func TestBudgetsApart(t *testing.T) {
	a, b := budget(t, 10), budget(t, 10)
	is(t, "Take", a.Take(6), api.OK)
	left(t, a, 4)
	left(t, b, 10)
	is(t, "Give", b.Give(1), api.ErrArg)
}

// P7.1 to P7.3, R4: each call of a nil budget and of a nil store, ahead of all other errors.
func TestNil(t *testing.T) {
	var b *buffer.Budget
	for _, n := range append(ends(), -1, 0, 1) {
		is(t, "Take of nil", b.Take(n), api.ErrNil)
		is(t, "Give of nil", b.Give(n), api.ErrNil)
	}
	left(t, b, 0)
	if s, err := buffer.New(nil); s != nil || err != api.ErrNil {
		t.Errorf("New(nil) = %v, %d", s, err)
	}
	var s *buffer.Store
	for _, n := range append(ends(), -1, 0, 1) {
		is(t, "Data of nil", s.Data(n, []byte{1}), api.ErrNil)
		is(t, "Sub of nil", s.Sub(n, n, nil), api.ErrNil)
		is(t, "Drop of nil", s.Drop(n), api.ErrNil)
		if got, err := s.Get(n, n, n); err != api.ErrNil || len(got) != 0 {
			t.Errorf("Get of nil = % x, %d", got, err)
		}
		if got, err := s.Size(n); err != api.ErrNil || got != 0 {
			t.Errorf("Size of nil = %d, %d", got, err)
		}
	}
	lists(t, s)
}

// P7.2: a new store has no buffers and takes nothing.
func TestNew(t *testing.T) {
	b, s := pair(t, 10)
	left(t, b, 10)
	lists(t, s)
	for _, id := range append(ends(), -1, 0, 1, 2) {
		gone(t, s, id)
	}
	_, none := pair(t, 0)
	put(t, none, 1)
	holds(t, none, 1)
	is(t, "one byte of none", none.Data(2, []byte{1}), api.ErrFull)
	lists(t, none, 1)
}

// P7.1 to P7.3: the chapter's examples.
func TestExamples(t *testing.T) {
	b, s := pair(t, 10)
	is(t, "Data(1, 8 bytes)", s.Data(1, make([]byte, 8)), api.OK)
	left(t, b, 2)
	is(t, "Data(2, 3 bytes)", s.Data(2, make([]byte, 3)), api.ErrFull)
	is(t, "Data(1, 10 bytes)", s.Data(1, make([]byte, 10)), api.OK)
	left(t, b, 0)
	is(t, "Sub(1, 8, 01 02)", s.Sub(1, 8, []byte{1, 2}), api.OK)
	if got, err := s.Get(1, 7, 3); err != api.OK || !bytes.Equal(got, []byte{0, 1, 2}) {
		t.Errorf("Get(1, 7, 3) = % x, %d", got, err)
	}
	is(t, "Sub(1, 9, 01 02)", s.Sub(1, 9, []byte{1, 2}), api.ErrArg)
	if got, err := s.Get(3, 0, 0); err != api.ErrNone || len(got) != 0 {
		t.Errorf("Get(3, 0, 0) = % x, %d", got, err)
	}
	is(t, "Drop(1)", s.Drop(1), api.OK)
	left(t, b, 10)
	lists(t, s)
}

// P7.2: numbers are from 1 on, up to the greatest.
func TestDataNumbers(t *testing.T) {
	b, s := pair(t, 10)
	put(t, s, 7, 1, 2)
	ahead := look(t, b, s)
	for _, id := range []int{0, -1, -2, -7, math.MinInt, math.MinInt + 1, -1 << 32, math.MinInt32} {
		is(t, "Data below 1", s.Data(id, []byte{9}), api.ErrArg)
		is(t, "Data below 1, of no bytes", s.Data(id, nil), api.ErrArg)
		is(t, "Data below 1, of too many", s.Data(id, make([]byte, 11)), api.ErrArg)
		gone(t, s, id)
	}
	same(t, b, s, ahead)
	for i, id := range []int{1, 2, 64, 65, 1 << 31, 1<<32 + 1, math.MaxInt} {
		put(t, s, id, byte(i))
		holds(t, s, id, byte(i))
		left(t, b, 7-i)
	}
	lists(t, s, 1, 2, 7, 64, 65, 1<<31, 1<<32+1, math.MaxInt)
}

// P7.2: as many bytes as are left, and one more.
func TestDataRoom(t *testing.T) {
	b, s := pair(t, 10)
	put(t, s, 1, 1, 2, 3, 4)
	left(t, b, 6)
	ahead := look(t, b, s)
	is(t, "one more than left", s.Data(2, make([]byte, 7)), api.ErrFull)
	is(t, "many more than left", s.Data(2, make([]byte, api.MaxBytes+1)), api.ErrFull)
	same(t, b, s, ahead)
	gone(t, s, 2)
	put(t, s, 2, 5, 6, 7, 8, 9, 10)
	left(t, b, 0)
	holds(t, s, 1, 1, 2, 3, 4)
	holds(t, s, 2, 5, 6, 7, 8, 9, 10)
	is(t, "one byte of none left", s.Data(3, []byte{1}), api.ErrFull)
	gone(t, s, 3)
	put(t, s, 3)
	holds(t, s, 3)
	left(t, b, 0)
	lists(t, s, 1, 2, 3)
}

// P7.2: a buffer that is there already becomes greater, smaller and empty; its own bytes count as room, those of others do not.
func TestDataAnew(t *testing.T) {
	b, s := pair(t, 10)
	put(t, s, 1, 1, 2, 3, 4)
	put(t, s, 2, 5, 6, 7)
	left(t, b, 3)
	put(t, s, 1, 11, 12, 13, 14, 15, 16, 17)
	left(t, b, 0)
	holds(t, s, 1, 11, 12, 13, 14, 15, 16, 17)
	holds(t, s, 2, 5, 6, 7)
	ahead := look(t, b, s)
	is(t, "one more than fit anew", s.Data(1, make([]byte, 8)), api.ErrFull)
	is(t, "one more than fit anew", s.Data(2, make([]byte, 4)), api.ErrFull)
	same(t, b, s, ahead)
	put(t, s, 1, 21, 22)
	left(t, b, 5)
	holds(t, s, 1, 21, 22)
	put(t, s, 1, 31, 32)
	left(t, b, 5)
	holds(t, s, 1, 31, 32)
	put(t, s, 1)
	left(t, b, 7)
	holds(t, s, 1)
	lists(t, s, 1, 2)
	put(t, s, 1, 41, 42, 43, 44, 45, 46, 47)
	left(t, b, 0)
	holds(t, s, 1, 41, 42, 43, 44, 45, 46, 47)
	holds(t, s, 2, 5, 6, 7)
}

// P7.2: a buffer of the greatest budget, byte for byte.
func TestDataGreatest(t *testing.T) {
	b, s := pair(t, api.MaxBytes)
	all := make([]byte, api.MaxBytes)
	for i := range all {
		all[i] = byte(i*7 + i>>8)
	}
	is(t, "one more", s.Data(1, append(slices.Clone(all), 0)), api.ErrFull)
	is(t, "all", s.Data(1, all), api.OK)
	left(t, b, 0)
	holds(t, s, 1, all...)
	is(t, "all, anew", s.Data(1, all), api.OK)
	left(t, b, 0)
	is(t, "one behind the end", s.Sub(1, api.MaxBytes, []byte{1}), api.ErrArg)
	is(t, "the last", s.Sub(1, api.MaxBytes-1, []byte{1}), api.OK)
	all[api.MaxBytes-1] = 1
	holds(t, s, 1, all...)
}

// P7.3: Sub and Get at each place, with each count, about the buffer's ends.
func TestPieces(t *testing.T) {
	first := []byte{10, 11, 12, 13, 14}
	for at := -2; at <= 7; at++ {
		for n := 0; n <= 8; n++ {
			b, s := pair(t, 8)
			put(t, s, 3, first...)
			put(t, s, 4, 1, 2, 3)
			ahead := look(t, b, s)
			fits := at >= 0 && at+n <= 5
			got, err := s.Get(3, at, n)
			piece := bytes.Repeat([]byte{77}, n)
			errSub := s.Sub(3, at, piece)
			if !fits {
				if err != api.ErrArg || len(got) != 0 || errSub != api.ErrArg {
					t.Errorf("%d from %d on: Get % x, %d; Sub %d; want ErrArg", n, at, got, err, errSub)
				}
				same(t, b, s, ahead)
				continue
			}
			if err != api.OK || !bytes.Equal(got, first[at:at+n]) || errSub != api.OK {
				t.Errorf("%d from %d on: Get % x, %d; Sub %d", n, at, got, err, errSub)
			}
			want := slices.Concat(first[:at], piece, first[at+n:])
			holds(t, s, 3, want...)
			holds(t, s, 4, 1, 2, 3)
			left(t, b, 0)
		}
	}
}

// P7.3: at and n together could pass the greatest number, or come round to within.
func TestPiecesFarOff(t *testing.T) {
	b, s := pair(t, 10)
	put(t, s, 1, 1, 2, 3, 4)
	put(t, s, 2)
	ahead := look(t, b, s)
	near := []int{-4, -1, 0, 1, 4, 5}
	for _, id := range []int{1, 2} {
		for _, far := range ends() {
			is(t, "Sub far off", s.Sub(id, far, []byte{9}), api.ErrArg)
			is(t, "Sub far off, of no bytes", s.Sub(id, far, nil), api.ErrArg)
			for _, other := range append(ends(), near...) {
				for _, p := range [][2]int{{far, other}, {other, far}} {
					if got, err := s.Get(id, p[0], p[1]); err != api.ErrArg || len(got) != 0 {
						t.Errorf("Get(%d, %d, %d) = % x, %d; want ErrArg", id, p[0], p[1], got, err)
					}
				}
			}
		}
		for at := -1; at <= 5; at++ {
			for _, n := range []int{-1, -2, -4, -at - 1, math.MinInt} {
				if n >= 0 {
					continue
				}
				if got, err := s.Get(id, at, n); err != api.ErrArg || len(got) != 0 {
					t.Errorf("Get(%d, %d, %d) = % x, %d; want ErrArg", id, at, n, got, err)
				}
			}
		}
	}
	same(t, b, s, ahead)
}

// P7.3: a buffer that is there without bytes is not one that is not there.
func TestEmptyBuffer(t *testing.T) {
	_, s := pair(t, 10)
	for _, none := range [][]byte{nil, {}} {
		is(t, "Data of no bytes", s.Data(5, none), api.OK)
		lists(t, s, 5)
		holds(t, s, 5)
		is(t, "Sub of no bytes", s.Sub(5, 0, none), api.OK)
		is(t, "Sub past the end", s.Sub(5, 1, none), api.ErrArg)
		is(t, "Sub of one", s.Sub(5, 0, []byte{1}), api.ErrArg)
		is(t, "Drop", s.Drop(5), api.OK)
		gone(t, s, 5)
	}
}

// P7.3: of a number that no buffer has ErrNone, ahead of ErrArg, whatever the rest.
func TestNone(t *testing.T) {
	b, s := pair(t, 10)
	put(t, s, 2, 1, 2, 3)
	put(t, s, 4, 1)
	is(t, "Drop", s.Drop(4), api.OK)
	ahead := look(t, b, s)
	for _, id := range append(ends(), -2, -1, 0, 1, 3, 4, 1<<32+2) {
		gone(t, s, id)
		for _, at := range []int{-1, 0, 1, 100, math.MaxInt, math.MinInt} {
			is(t, "Sub of none", s.Sub(id, at, []byte{1, 2}), api.ErrNone)
			if got, err := s.Get(id, at, -at); err != api.ErrNone || len(got) != 0 {
				t.Errorf("Get(%d, %d, %d) = % x, %d; want ErrNone", id, at, -at, got, err)
			}
		}
		same(t, b, s, ahead)
	}
}

// P7.3: Drop gives the bytes back, once, and the number may be used anew.
func TestDrop(t *testing.T) {
	b, s := pair(t, 10)
	put(t, s, 1, 1, 2, 3)
	put(t, s, 2, 4, 5)
	put(t, s, 3, 6)
	is(t, "Drop(2)", s.Drop(2), api.OK)
	left(t, b, 6)
	gone(t, s, 2)
	left(t, b, 6)
	lists(t, s, 1, 3)
	holds(t, s, 1, 1, 2, 3)
	holds(t, s, 3, 6)
	put(t, s, 2, 7, 8, 9, 10, 11, 12)
	left(t, b, 0)
	holds(t, s, 2, 7, 8, 9, 10, 11, 12)
	for _, id := range []int{3, 1, 2} {
		is(t, "Drop", s.Drop(id), api.OK)
		gone(t, s, id)
	}
	left(t, b, 10)
	lists(t, s)
}

// P7.3: List is rising, whatever the order in which buffers came, and the same each time.
func TestList(t *testing.T) {
	_, s := pair(t, 10)
	ids := []int{40, 3, math.MaxInt, 1, 22, 7, 1 << 40, 2, 100, 5, 64, 10}
	for i, id := range ids {
		put(t, s, id)
		want := slices.Sorted(slices.Values(ids[:i+1]))
		for range 4 {
			lists(t, s, want...)
		}
	}
}

// P7.4, R3: what was handed in, and what was got, is the caller's: it is not changed, and its change changes nothing.
func TestBytesApart(t *testing.T) {
	_, s := pair(t, 20)
	room := []byte{1, 2, 3, 4, 90, 91}
	in := room[:4]
	put(t, s, 1, in...)
	is(t, "Data", s.Data(1, in), api.OK)
	is(t, "Data of the same list", s.Data(2, in), api.OK)
	in[0], in[3] = 50, 51
	holds(t, s, 1, 1, 2, 3, 4)
	sub := []byte{7, 8}
	is(t, "Sub", s.Sub(1, 1, sub), api.OK)
	sub[0] = 60
	holds(t, s, 1, 1, 7, 8, 4)
	holds(t, s, 2, 1, 2, 3, 4)
	if !bytes.Equal(room, []byte{50, 2, 3, 51, 90, 91}) || !bytes.Equal(sub, []byte{60, 8}) {
		t.Errorf("what was handed in is % x and % x", room, sub)
	}
	got, _ := s.Get(1, 0, 4)
	again, _ := s.Get(1, 0, 4)
	part, _ := s.Get(1, 0, 2)
	got[1] = 70
	if part = append(part, 71, 72); !bytes.Equal(again, []byte{1, 7, 8, 4}) {
		t.Errorf("got again: % x", again)
	}
	holds(t, s, 1, 1, 7, 8, 4)
	is(t, "Sub", s.Sub(1, 0, []byte{80, 81, 82, 83}), api.OK)
	if !bytes.Equal(got, []byte{1, 70, 8, 4}) || !bytes.Equal(again, []byte{1, 7, 8, 4}) || !bytes.Equal(part, []byte{1, 7, 71, 72}) {
		t.Errorf("what was got is % x, % x, % x", got, again, part)
	}
	list := s.List()
	list[0], list[1] = 9, 9
	lists(t, s, 1, 2)
}

// P7.4: the room behind a buffer's end is not to be reached by what was handed in with room behind it.
func TestRoomBehind(t *testing.T) {
	b, s := pair(t, 10)
	room := make([]byte, 10)
	is(t, "Data", s.Data(1, room[:2]), api.OK)
	left(t, b, 8)
	is(t, "Sub past the end", s.Sub(1, 2, []byte{1}), api.ErrArg)
	is(t, "Sub past the end", s.Sub(1, 1, []byte{1, 2}), api.ErrArg)
	if got, err := s.Get(1, 0, 3); err != api.ErrArg || len(got) != 0 {
		t.Errorf("Get past the end = % x, %d", got, err)
	}
	put(t, s, 1, 5, 6, 7, 8)
	put(t, s, 1, 9)
	is(t, "Sub behind the new end", s.Sub(1, 1, []byte{1}), api.ErrArg)
	holds(t, s, 1, 9)
}

// P7.2, P7.4: two stores share one budget, but no buffers.
func TestTwoStores(t *testing.T) {
	b := budget(t, 10)
	one, two := store(t, b), store(t, b)
	put(t, one, 1, 1, 2, 3, 4)
	put(t, two, 1, 5, 6, 7)
	left(t, b, 3)
	holds(t, one, 1, 1, 2, 3, 4)
	holds(t, two, 1, 5, 6, 7)
	is(t, "no room beside the other", one.Data(1, make([]byte, 8)), api.ErrFull)
	is(t, "no room beside the other", two.Data(2, make([]byte, 4)), api.ErrFull)
	put(t, two, 9, 8, 9, 10)
	left(t, b, 0)
	gone(t, one, 9)
	is(t, "Drop", two.Drop(1), api.OK)
	holds(t, one, 1, 1, 2, 3, 4)
	left(t, b, 3)
	put(t, one, 1, 1, 2, 3, 4, 5, 6, 7)
	left(t, b, 0)
	holds(t, two, 9, 8, 9, 10)
	lists(t, one, 1)
	lists(t, two, 9)
}

// P7.1, P7.2: what others take of the budget is not left for buffers, and the other way round.
func TestOthersTake(t *testing.T) {
	b, s := pair(t, 10)
	is(t, "Take", b.Take(6), api.OK)
	is(t, "one more than left", s.Data(1, make([]byte, 5)), api.ErrFull)
	put(t, s, 1, 1, 2, 3)
	left(t, b, 1)
	is(t, "Take of one more", b.Take(2), api.ErrFull)
	is(t, "Take", b.Take(1), api.OK)
	put(t, s, 1, 4, 5, 6)
	left(t, b, 0)
	is(t, "one more than its own", s.Data(1, make([]byte, 4)), api.ErrFull)
	holds(t, s, 1, 4, 5, 6)
	is(t, "Give", b.Give(7), api.OK)
	left(t, b, 7)
	is(t, "Drop", s.Drop(1), api.OK)
	left(t, b, 10)
}

// P7.1, P7.2: bytes of buffers that others gave back, though they took none, are not given back a second time; what is left stays within the budget.
func TestOthersGiveTooMuch(t *testing.T) {
	b, s := pair(t, 10)
	put(t, s, 1, 1, 2, 3, 4, 5, 6, 7, 8)
	is(t, "Give", b.Give(5), api.OK)
	left(t, b, 7)
	is(t, "Drop", s.Drop(1), api.OK)
	left(t, b, 10)
	gone(t, s, 1)
	put(t, s, 1, 1, 2, 3, 4, 5, 6, 7, 8)
	is(t, "Give", b.Give(8), api.OK)
	put(t, s, 1, 1, 2)
	left(t, b, 10)
	holds(t, s, 1, 1, 2)
	is(t, "more than left and its own", s.Data(1, make([]byte, 13)), api.ErrFull)
	is(t, "as many as left and its own", s.Data(1, make([]byte, 12)), api.OK)
	left(t, b, 0)
}
