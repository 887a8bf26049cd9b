package names_test

import (
	"math"
	"slices"
	"testing"

	"paintbox/api"
	"paintbox/names"
)

// noNames are numbers that no name has, and that can't be bound or deleted either.
func noNames() []int {
	return []int{-1, -64, 65, 66, 127, 128, 256, 257, -256, math.MinInt, math.MaxInt, 1 << 32, 1<<32 + 1, -1 << 32}
}

// everyName is 1 to 64.
func everyName() []int {
	return upTo(1, api.MaxNames)
}

// upTo are the numbers from one to another.
func upTo(first, last int) []int {
	var list []int
	for i := first; i <= last; i++ {
		list = append(list, i)
	}
	return list
}

// gen asks for names and holds the answer against what is wanted.
func gen(t *testing.T, n *names.Names, count int, want ...int) {
	t.Helper()
	if got, err := n.Gen(count); err != api.OK || !slices.Equal(got, want) {
		t.Errorf("Gen(%d) = %v, %d; want %v", count, got, err, want)
	}
}

// genFails asks for names that are not to be had, and looks that nothing has become of it.
func genFails(t *testing.T, n *names.Names, count int, want api.Errno) {
	t.Helper()
	ahead := look(n)
	if got, err := n.Gen(count); err != want || len(got) != 0 {
		t.Errorf("Gen(%d) = %v, %d; want none, %d", count, got, err, want)
	}
	same(t, n, ahead)
}

// bind binds a name and holds the answer against what is wanted.
func bind(t *testing.T, n *names.Names, name int, want bool) {
	t.Helper()
	if got, err := n.Bind(name); err != api.OK || got != want {
		t.Errorf("Bind(%d) = %v, %d; want %v", name, got, err, want)
	}
	if n.Bound() != name {
		t.Errorf("Bound() = %d behind Bind(%d)", n.Bound(), name)
	}
}

// drop deletes a name and holds the answer against what is wanted.
func drop(t *testing.T, n *names.Names, name int, want bool) {
	t.Helper()
	if got, err := n.Delete(name); err != api.OK || got != want {
		t.Errorf("Delete(%d) = %v, %d; want %v", name, got, err, want)
	}
}

// bound holds the bound name against the one that is wanted.
func bound(t *testing.T, n *names.Names, want int) {
	t.Helper()
	if got := n.Bound(); got != want {
		t.Errorf("Bound() = %d; want %d", got, want)
	}
}

// objects holds what All tells against what is wanted.
func objects(t *testing.T, n *names.Names, want ...int) {
	t.Helper()
	if got := slices.Collect(n.All()); !slices.Equal(got, want) {
		t.Errorf("All() = %v; want %v", got, want)
	}
}

// The three ways in which a name may stand.
const (
	isFree = iota
	isGiven
	isObject
)

// sight is all that can be told of Names.
type sight struct {
	stand [api.MaxNames + 1]int
	bound int
}

// look asks Names for all that can be told.
func look(n *names.Names) sight {
	s := sight{bound: n.Bound()}
	for _, name := range everyName() {
		if n.Used(name) {
			s.stand[name] = isGiven
		}
		if n.Is(name) {
			s.stand[name] = isObject
		}
	}
	return s
}

// same holds all that can be told of Names against what is wanted, each call for itself.
func same(t *testing.T, n *names.Names, want sight) {
	t.Helper()
	left := 0
	var list []int
	for _, name := range everyName() {
		if got := n.Is(name); got != (want.stand[name] == isObject) {
			t.Errorf("Is(%d) = %v", name, got)
		}
		if got := n.Used(name); got != (want.stand[name] != isFree) {
			t.Errorf("Used(%d) = %v", name, got)
		}
		if want.stand[name] == isFree {
			left++
		}
		if want.stand[name] == isObject {
			list = append(list, name)
		}
	}
	if got := n.Left(); got != left {
		t.Errorf("Left() = %d; want %d", got, left)
	}
	bound(t, n, want.bound)
	objects(t, n, list...)
}

// gen, bind and drop of a sight are the chapter's words: the count least free ones; an object, and bound; free, and not bound.
func (s *sight) gen(count int) ([]int, api.Errno) {
	var all []int
	for _, name := range everyName() {
		if s.stand[name] == isFree {
			all = append(all, name)
		}
	}
	switch {
	case count < 0:
		return nil, api.ErrArg
	case len(all) < count:
		return nil, api.ErrFull
	}
	for _, name := range all[:count] {
		s.stand[name] = isGiven
	}
	return all[:count], api.OK
}

func (s *sight) bind(name int) (bool, api.Errno) {
	switch {
	case name < 0 || api.MaxNames < name:
		return false, api.ErrArg
	case name == 0:
		s.bound = 0
		return false, api.OK
	}
	made := s.stand[name] != isObject
	s.stand[name] = isObject
	s.bound = name
	return made, api.OK
}

func (s *sight) drop(name int) (bool, api.Errno) {
	switch {
	case name < 0 || api.MaxNames < name:
		return false, api.ErrArg
	case name == 0:
		return false, api.OK
	}
	was := s.stand[name] == isObject
	s.stand[name] = isFree
	if s.bound == name {
		s.bound = 0
	}
	return was, api.OK
}

// chance answers numbers that look like chance, always the same ones.
func chance(seed uint64) func(int) int {
	state := seed
	return func(below int) int {
		state = state*6364136223846793005 + 1442695040888963407
		return int(state>>33) % below
	}
}

// P6.1: all are free, none is bound, and two that are made have nothing to do with each other.
func TestNewIsFree(t *testing.T) {
	n := names.New()
	if n == nil {
		t.Fatal("New() = nil")
	}
	same(t, n, sight{})
	if n.Left() != 64 {
		t.Error(n.Left())
	}
	gen(t, n, 2, 1, 2)
	bind(t, n, 3, true)
	same(t, names.New(), sight{})
}

// P6.2 to P6.4: the chapter's examples.
func TestExamples(t *testing.T) {
	n := names.New()
	gen(t, n, 3, 1, 2, 3)
	if n.Is(1) || !n.Used(1) {
		t.Error(n.Is(1), n.Used(1))
	}
	bind(t, n, 1, true)
	bind(t, n, 1, false)
	if !n.Is(1) {
		t.Error("Is(1) = false")
	}
	bound(t, n, 1)
	drop(t, n, 2, false)
	gen(t, n, 2, 2, 4)
	bind(t, n, 9, true)
	drop(t, n, 1, true)
	bound(t, n, 9)
	drop(t, n, 9, true)
	bound(t, n, 0)
	drop(t, n, 0, false)
	genFails(t, n, -1, api.ErrArg)
	if made, err := n.Bind(65); made || err != api.ErrArg {
		t.Error(made, err)
	}
	genFails(t, n, 65, api.ErrFull)
}

// P6.2: none, one, all, one more than all, fewer than none.
func TestGenCounts(t *testing.T) {
	n := names.New()
	gen(t, n, 0)
	same(t, n, sight{})
	for _, count := range []int{-1, -2, -64, math.MinInt, -1 << 32} {
		genFails(t, n, count, api.ErrArg)
	}
	for _, count := range []int{65, 66, 1 << 32, 1<<32 + 1, math.MaxInt} {
		genFails(t, n, count, api.ErrFull)
	}
	gen(t, n, 1, 1)
	gen(t, n, 1, 2)
	gen(t, n, 0)
	genFails(t, n, 63, api.ErrFull)
	gen(t, n, 62, upTo(3, 64)...)
	gen(t, n, 0)
	genFails(t, n, 1, api.ErrFull)
	genFails(t, n, -1, api.ErrArg)
	gen(t, names.New(), 64, everyName()...)
}

// P6.2: as many as are free, and one more, wherever the free ones stand.
func TestGenOfWhatIsFree(t *testing.T) {
	for used := 0; used <= api.MaxNames; used++ {
		n := names.New()
		gen(t, n, used, upTo(1, used)...)
		free := api.MaxNames - used
		if n.Left() != free {
			t.Errorf("Left() = %d; want %d", n.Left(), free)
		}
		genFails(t, n, free+1, api.ErrFull)
		gen(t, n, free, upTo(used+1, api.MaxNames)...)
		genFails(t, n, 1, api.ErrFull)
	}
}

// P6.2: the least free ones, those that were deleted among them; objects and given ones are left out.
func TestGenTakesTheLeast(t *testing.T) {
	n := names.New()
	bind(t, n, 1, true)
	bind(t, n, 4, true)
	bind(t, n, 64, true)
	gen(t, n, 3, 2, 3, 5)
	drop(t, n, 3, false)
	drop(t, n, 1, true)
	gen(t, n, 3, 1, 3, 6)
	for _, name := range []int{60, 20, 40} {
		bind(t, n, name, true)
	}
	gen(t, n, 54, slices.DeleteFunc(upTo(7, 63), func(i int) bool { return i%20 == 0 })...)
	drop(t, n, 64, true)
	drop(t, n, 40, true)
	genFails(t, n, 3, api.ErrFull)
	gen(t, n, 2, 40, 64)
}

// P6.2, P6.5: what is given is used, but no object, and not bound.
func TestGenGives(t *testing.T) {
	n := names.New()
	bind(t, n, 7, true)
	gen(t, n, 3, 1, 2, 3)
	want := sight{bound: 7}
	want.stand[1], want.stand[2], want.stand[3], want.stand[7] = isGiven, isGiven, isGiven, isObject
	same(t, n, want)
}

// P6.2: the list is the caller's own (R3).
func TestGenKeepsNothing(t *testing.T) {
	n := names.New()
	l, _ := n.Gen(3)
	ahead := look(n)
	for i := range l[:cap(l)] {
		l[:cap(l)][i] = 50
	}
	same(t, n, ahead)
	k, _ := n.Gen(2)
	if !slices.Equal(k, []int{4, 5}) || !slices.Equal(l, []int{50, 50, 50}) {
		t.Error(k, l)
	}
}

// P6.3: a free, a given and an object name, each one of all names.
func TestBindEachStand(t *testing.T) {
	for _, name := range everyName() {
		free := names.New()
		bind(t, free, name, true)
		want := sight{bound: name}
		want.stand[name] = isObject
		same(t, free, want)
		bind(t, free, name, false)
		same(t, free, want)

		given := names.New()
		gen(t, given, 64, everyName()...)
		want = look(given)
		bind(t, given, name, true)
		want.stand[name], want.bound = isObject, name
		same(t, given, want)
		bind(t, given, name, false)
		same(t, given, want)
	}
}

// P6.3: the one that was bound ahead stays an object; it is bound again without being made.
func TestBindAnother(t *testing.T) {
	n := names.New()
	bind(t, n, 5, true)
	bind(t, n, 6, true)
	objects(t, n, 5, 6)
	bind(t, n, 5, false)
	objects(t, n, 5, 6)
}

// P6.3: Bind(0) leaves none bound, and the objects as they are.
func TestBindNone(t *testing.T) {
	n := names.New()
	bind(t, n, 0, false)
	same(t, n, sight{})
	bind(t, n, 5, true)
	bind(t, n, 0, false)
	want := sight{}
	want.stand[5] = isObject
	same(t, n, want)
	bind(t, n, 0, false)
	bind(t, n, 5, false)
}

// P6.3: what can't be bound or deleted changes nothing.
func TestNoNames(t *testing.T) {
	n := names.New()
	gen(t, n, 2, 1, 2)
	bind(t, n, 64, true)
	bind(t, n, 1, true)
	ahead := look(n)
	for _, name := range noNames() {
		if made, err := n.Bind(name); made || err != api.ErrArg {
			t.Errorf("Bind(%d) = %v, %d", name, made, err)
		}
		same(t, n, ahead)
		if was, err := n.Delete(name); was || err != api.ErrArg {
			t.Errorf("Delete(%d) = %v, %d", name, was, err)
		}
		same(t, n, ahead)
	}
}

// P6.3: a free, a given and an object name, each one of all names, while another is bound.
func TestDeleteEachStand(t *testing.T) {
	for _, name := range everyName() {
		other := name%api.MaxNames + 1
		n := names.New()
		bind(t, n, other, true)
		want := look(n)
		drop(t, n, name, false)
		same(t, n, want)

		bind(t, n, name, true)
		bind(t, n, other, false)
		drop(t, n, name, true)
		same(t, n, want)
		drop(t, n, name, false)
		same(t, n, want)

		given := names.New()
		gen(t, given, 64, everyName()...)
		bind(t, given, other, true)
		want = look(given)
		drop(t, given, name, false)
		want.stand[name] = isFree
		same(t, given, want)
		gen(t, given, 1, name)
	}
}

// P6.3: the bound one deleted: none is bound; it may be bound anew.
func TestDeleteTheBound(t *testing.T) {
	for _, name := range everyName() {
		n := names.New()
		bind(t, n, name, true)
		drop(t, n, name, true)
		same(t, n, sight{})
		bind(t, n, name, true)
	}
}

// P6.3: Delete(0) changes nothing, whether one is bound or not.
func TestDeleteNone(t *testing.T) {
	n := names.New()
	drop(t, n, 0, false)
	same(t, n, sight{})
	gen(t, n, 1, 1)
	bind(t, n, 2, true)
	ahead := look(n)
	drop(t, n, 0, false)
	same(t, n, ahead)
	bind(t, n, 0, false)
	drop(t, n, 0, false)
	bound(t, n, 0)
	objects(t, n, 2)
}

// P6.4: what is no name is neither an object nor used, 0 neither, even if all names are objects and none is bound.
func TestToldOfNoNames(t *testing.T) {
	n := names.New()
	for _, name := range append(noNames(), 0) {
		if n.Is(name) || n.Used(name) {
			t.Error(name, n.Is(name), n.Used(name))
		}
	}
	for _, name := range everyName() {
		bind(t, n, name, true)
	}
	bind(t, n, 0, false)
	for _, name := range append(noNames(), 0) {
		if n.Is(name) || n.Used(name) {
			t.Error(name, n.Is(name), n.Used(name))
		}
	}
}

// P6.2 to P6.4, R4: of nil, each call.
func TestNil(t *testing.T) {
	var n *names.Names
	for _, i := range append(noNames(), 0, 1, 64) {
		if l, err := n.Gen(i); len(l) != 0 || err != api.ErrNil {
			t.Errorf("Gen(%d) = %v, %d", i, l, err)
		}
		if made, err := n.Bind(i); made || err != api.ErrNil {
			t.Errorf("Bind(%d) = %v, %d", i, made, err)
		}
		if was, err := n.Delete(i); was || err != api.ErrNil {
			t.Errorf("Delete(%d) = %v, %d", i, was, err)
		}
		if n.Is(i) || n.Used(i) {
			t.Error(i, n.Is(i), n.Used(i))
		}
	}
	if n.Bound() != 0 || n.Left() != 0 || n.Copy() != nil {
		t.Error(n.Bound(), n.Left(), n.Copy())
	}
	objects(t, n)
}

// P6.4: how many are free goes down and up by one name each.
func TestLeft(t *testing.T) {
	n := names.New()
	for i, name := range everyName() {
		bind(t, n, name, true)
		if n.Left() != 63-i {
			t.Error(name, n.Left())
		}
	}
	for i, name := range everyName() {
		drop(t, n, name, true)
		if n.Left() != i+1 {
			t.Error(name, n.Left())
		}
	}
}

// P6.4: the objects of none, some and all, rising; given ones are not told.
func TestAll(t *testing.T) {
	n := names.New()
	objects(t, n)
	gen(t, n, 10, upTo(1, 10)...)
	objects(t, n)
	for _, name := range []int{64, 3, 20, 1} {
		bind(t, n, name, true)
	}
	objects(t, n, 1, 3, 20, 64)
	drop(t, n, 20, true)
	objects(t, n, 1, 3, 64)
	bind(t, n, 0, false)
	objects(t, n, 1, 3, 64)
	for _, name := range everyName() {
		n.Bind(name)
	}
	objects(t, n, everyName()...)
}

// P6.4, R6: left early behind each one, and gone through again from the first on.
func TestAllIsLeftEarly(t *testing.T) {
	n := names.New()
	list := []int{1, 3, 20, 64}
	for _, name := range list {
		bind(t, n, name, true)
	}
	all := n.All()
	for stop := range list {
		var got []int
		for name := range all {
			got = append(got, name)
			if len(got) > stop {
				break
			}
		}
		if !slices.Equal(got, list[:stop+1]) {
			t.Errorf("left behind %d: %v", stop+1, got)
		}
	}
	for range 2 {
		if got := slices.Collect(all); !slices.Equal(got, list) {
			t.Error(got)
		}
	}
	for outer := range all {
		if got := slices.Collect(all); !slices.Equal(got, list) {
			t.Error(outer, got)
		}
	}
}

// P6.4: the objects as they were when All was called, whatever becomes of the names, ahead of the way through or on it.
func TestAllStandsStill(t *testing.T) {
	n := names.New()
	for _, name := range []int{2, 5, 9} {
		bind(t, n, name, true)
	}
	none := names.New().All()
	all := n.All()
	drop(t, n, 5, true)
	bind(t, n, 7, true)
	if got := slices.Collect(all); !slices.Equal(got, []int{2, 5, 9}) {
		t.Error(got)
	}
	objects(t, n, 2, 7, 9)
	var got []int
	for name := range n.All() {
		got = append(got, name)
		n.Delete(9)
		n.Bind(name + 1)
	}
	if !slices.Equal(got, []int{2, 7, 9}) {
		t.Error(got)
	}
	objects(t, n, 2, 3, 7, 8, 10)
	if got := slices.Collect(all); !slices.Equal(got, []int{2, 5, 9}) {
		t.Error(got)
	}
	if got := slices.Collect(none); len(got) != 0 {
		t.Error(got)
	}
}

// P6.4: a copy stands as the names do, and either of the two goes on by itself.
func TestCopy(t *testing.T) {
	n := names.New()
	gen(t, n, 3, 1, 2, 3)
	bind(t, n, 2, true)
	bind(t, n, 30, true)
	ahead := look(n)
	c := n.Copy()
	if c == nil || c == n {
		t.Fatal("no copy")
	}
	same(t, c, ahead)

	gen(t, c, 2, 4, 5)
	drop(t, c, 30, true)
	bind(t, c, 1, true)
	same(t, n, ahead)

	changed := look(c)
	drop(t, n, 1, false)
	bind(t, n, 64, true)
	gen(t, n, 3, 1, 4, 5)
	same(t, c, changed)

	bind(t, n, 0, false)
	bound(t, c, 1)
	same(t, names.New().Copy(), sight{})
}

// P6.5: many steps, each held against the chapter's words, and what follows from them.
func TestWhatFollows(t *testing.T) {
	for seed := range uint64(60) {
		next := chance(seed)
		n, want := names.New(), sight{}
		for range 150 {
			step(t, n, &want, next)
			follows(t, n)
			same(t, n, want)
			if t.Failed() {
				return
			}
		}
	}
}

// step does one call to the names and to the sight.
func step(t *testing.T, n *names.Names, want *sight, next func(int) int) {
	t.Helper()
	name := next(68) - 2
	switch next(5) {
	case 0:
		count := next(10) - 1
		ahead := look(n)
		got, err := n.Gen(count)
		list, wantErr := want.gen(count)
		if err != wantErr || !slices.Equal(got, list) {
			t.Errorf("Gen(%d) = %v, %d; want %v, %d", count, got, err, list, wantErr)
		}
		for _, name := range got {
			if ahead.stand[name] != isFree || !n.Used(name) {
				t.Errorf("%d was not free, or is not used", name)
			}
		}
	case 1, 2:
		got, err := n.Bind(name)
		made, wantErr := want.bind(name)
		if got != made || err != wantErr {
			t.Errorf("Bind(%d) = %v, %d; want %v, %d", name, got, err, made, wantErr)
		}
	default:
		got, err := n.Delete(name)
		was, wantErr := want.drop(name)
		if got != was || err != wantErr {
			t.Errorf("Delete(%d) = %v, %d; want %v, %d", name, got, err, was, wantErr)
		}
	}
}

// follows holds the names against P6.5: the bound one is an object, an object is used, the free and the used ones are all.
func follows(t *testing.T, n *names.Names) {
	t.Helper()
	if b := n.Bound(); b != 0 && !n.Is(b) {
		t.Errorf("%d is bound, but no object", b)
	}
	used := 0
	for _, name := range everyName() {
		if n.Used(name) {
			used++
		} else if n.Is(name) {
			t.Errorf("%d is an object, but not used", name)
		}
	}
	if n.Left()+used != api.MaxNames {
		t.Errorf("%d are left, %d used", n.Left(), used)
	}
}
