package pool_test

import (
	"fmt"
	"math"
	"reflect"
	"slices"
	"testing"

	"ciborium/api"
	"ciborium/pool"
)

// What the chapter counts with, written apart from the program.
const (
	epochGens = 1048576       // generations of an epoch
	lastEpoch = 1099511627775 // 2 to 40 less 1
)

// What a place is.
const (
	free = iota
	taken
	limbo
)

// plain is a pool that is kept in a plain way: what each place is, and how many generations of the epoch were told.
type plain struct {
	first int
	state []int
	epoch uint64
	told  int
}

func (p *plain) is(place, state int) bool {
	return p.first <= place && place-p.first < len(p.state) && p.state[place-p.first] == state
}

// turn makes a place another thing, if it is the one that it should be.
func (p *plain) turn(place, from, to int) bool {
	if !p.is(place, from) {
		return false
	}
	p.state[place-p.first] = to
	return true
}

// those answers the places that are so, rising.
func (p *plain) those(state int) []int {
	var l []int
	for i, is := range p.state {
		if is == state {
			l = append(l, p.first+i)
		}
	}
	return l
}

func (p *plain) take(n int) ([]int, api.Errno) {
	if n < 0 {
		return nil, api.ErrArg
	}
	l := p.those(free)
	if n > len(l) {
		return nil, api.ErrSpace
	}
	for _, place := range l[:n] {
		p.turn(place, free, taken)
	}
	return l[:n], api.OK
}

func (p *plain) use(place int) bool { return p.turn(place, free, taken) }

// all turns places, one behind the other: how many.
func (p *plain) all(places []int, from, to int) int {
	many := 0
	for _, place := range places {
		if p.turn(place, from, to) {
			many++
		}
	}
	return many
}

func (p *plain) give(places []int) int { return p.all(places, taken, free) }

func (p *plain) later(places []int) int { return p.all(places, taken, limbo) }

func (p *plain) settle() int { return p.all(p.those(limbo), limbo, free) }

// next is the generation that comes next.
func (p *plain) next() uint64 { return p.epoch*epochGens + uint64(p.told) }

func (p *plain) gens(n int) (uint64, api.Errno) {
	if n < 0 {
		return 0, api.ErrArg
	}
	if n > epochGens-p.told {
		return 0, api.ErrSpace
	}
	gen := p.next()
	p.told += n
	return gen, api.OK
}

func (p *plain) begin(epoch uint64) api.Errno {
	if epoch <= p.epoch || epoch > lastEpoch {
		return api.ErrArg
	}
	p.epoch, p.told = epoch, 0
	return api.OK
}

func (p *plain) clone() *plain {
	return &plain{first: p.first, state: slices.Clone(p.state), epoch: p.epoch, told: p.told}
}

// same tells whether two lists hold the same, a nil one being as an empty one.
func same(a, b []int) bool { return slices.Equal(a, b) }

// made answers a pool that there must be.
func made(t *testing.T, first, count int) *pool.Pool {
	t.Helper()
	p := pool.New(first, count)
	if p == nil {
		t.Fatalf("no pool of %d places from %d on", count, first)
	}
	return p
}

// of answers a pool whose places are as the plain one's.
func of(t *testing.T, x *plain) *pool.Pool {
	t.Helper()
	p := made(t, x.first, len(x.state))
	for i, state := range x.state {
		if state != free && !p.Use(x.first+i) {
			t.Fatalf("Use(%d) of a new pool of %v = false", x.first+i, x)
		}
	}
	if l := x.those(limbo); p.Later(l) != len(l) {
		t.Fatalf("Later(%v) isn't all of them, of %v", l, x)
	}
	return p
}

// states are all pools of so many places, from first on: each place in each way that it can be.
func states(first, count int) []*plain {
	all := 1
	for range count {
		all *= 3
	}
	var l []*plain
	for way := range all {
		x := &plain{first: first, state: make([]int, count)}
		for i := range x.state {
			x.state[i] = way % 3
			way /= 3
		}
		l = append(l, x)
	}
	return l
}

// sizes are pools of which some are gone through whole: small and great ones, about the ends of words, at the ends of what may be.
func sizes() []struct{ first, count int } {
	return []struct{ first, count int }{
		{0, 1}, {0, 2}, {10, 3}, {599, 1}, {598, 2}, {3, 63}, {0, 64}, {64, 65}, {1, 130}, {200, 399}, {0, 400}, {200, 400},
	}
}

// patterns are pools of that size with each kind of places alone, and mixed.
func patterns(first, count int) []*plain {
	rules := []func(i int) int{
		func(i int) int { return free },
		func(i int) int { return taken },
		func(i int) int { return limbo },
		func(i int) int { return i % 3 },
		func(i int) int { return (i + 1) % 3 },
		func(i int) int { return i % 2 * limbo },
		func(i int) int { return i % 2 },
		func(i int) int { return i * i % 7 % 3 },
		func(i int) int { return min(i, 1) },
		func(i int) int { return min(i, 1) * limbo },
		func(i int) int { return i * 3 / count },
		func(i int) int { return 2 - i*3/count },
	}
	var l []*plain
	for _, rule := range rules {
		x := &plain{first: first, state: make([]int, count)}
		for i := range x.state {
			x.state[i] = rule(i)
		}
		l = append(l, x)
	}
	return l
}

// outside are places that a pool hasn't.
func outside(first, count int) []int {
	behind := first + count
	return []int{
		first - 1, first - 2, first - 64, -1, -2, -count, -first - 1, -65536, math.MinInt32, math.MinInt + first, math.MinInt + behind, math.MinInt + 1, math.MinInt,
		behind, behind + 1, behind + 63, behind + 64, behind + 600, 65536 + behind, 1<<32 + first, math.MaxInt32, math.MaxInt - behind, math.MaxInt - first, math.MaxInt - 1, math.MaxInt,
	}
}

// extremes are the greatest and the least numbers, and some between.
func extremes() []int {
	return []int{-1, -2, -64, math.MinInt32, math.MinInt + 1, math.MinInt, 601, 1 << 20, 1<<32 + 1, math.MaxInt32, math.MaxInt - 1, math.MaxInt}
}

// holds tells what goes wrong where a pool is to be like a plain one.
func holds(t *testing.T, name string, p *pool.Pool, x *plain) {
	t.Helper()
	want := [3]int{len(x.those(free)), len(x.those(taken)), len(x.those(limbo))}
	if got := [3]int{p.Free(), len(p.Taken()), p.Limbo()}; got != want {
		t.Errorf("%s: free, taken, in limbo: %v, want %v", name, got, want)
	}
	if all := p.Free() + len(p.Taken()) + p.Limbo(); all != len(x.state) {
		t.Errorf("%s: %d places in all, of %d", name, all, len(x.state))
	}
	if got := p.Taken(); !same(got, x.those(taken)) {
		t.Errorf("%s: Taken = %v, want %v", name, got, x.those(taken))
	}
	if p.Epoch() != x.epoch {
		t.Errorf("%s: Epoch = %d, want %d", name, p.Epoch(), x.epoch)
	}
	if gen, e := p.Gens(0); gen != x.next() || e != api.OK {
		t.Errorf("%s: Gens(0) = %d, %d, want %d", name, gen, e, x.next())
	}
}

// holdsWhole asks also which places are free, and which are in limbo, of copies that are used up.
func holdsWhole(t *testing.T, name string, p *pool.Pool, x *plain) {
	t.Helper()
	holds(t, name, p, x)
	c := p.Copy()
	if got, e := c.Take(c.Free()); e != api.OK || !same(got, x.those(free)) {
		t.Errorf("%s: free are %v, %d, want %v", name, got, e, x.those(free))
	}
	if got, want := c.Settle(), len(x.those(limbo)); got != want {
		t.Errorf("%s: Settle = %d, want %d", name, got, want)
	}
	if got, e := c.Take(c.Free()); e != api.OK || !same(got, x.those(limbo)) {
		t.Errorf("%s: in limbo were %v, %d, want %v", name, got, e, x.those(limbo))
	}
	holds(t, name+", its copy used up", p, x)
}

// numbers answers a function that tells one number behind the other, in no plain order, but always the same ones.
func numbers(seed uint64) func(below int) int {
	return func(below int) int {
		seed = seed*6364136223846793005 + 1442695040888963407
		return int(seed >> 33 % uint64(below))
	}
}

func TestExamples(t *testing.T) {
	p := made(t, 10, 3)
	if got, e := p.Take(2); e != api.OK || !same(got, []int{10, 11}) {
		t.Errorf("Take(2) = %v, %d", got, e)
	}
	if got := p.Later([]int{10}); got != 1 {
		t.Errorf("Later of 10 = %d", got)
	}
	if got, e := p.Take(2); e != api.ErrSpace || len(got) != 0 {
		t.Errorf("Take(2), ahead of Settle = %v, %d", got, e)
	}
	if got := p.Settle(); got != 1 {
		t.Errorf("Settle = %d", got)
	}
	if got, e := p.Take(2); e != api.OK || !same(got, []int{10, 12}) {
		t.Errorf("Take(2), behind Settle = %v, %d", got, e)
	}
}

// P14.1

func TestNew(t *testing.T) {
	at := []int{
		math.MinInt, math.MinInt + 1, math.MinInt32, -601, -400, -2, -1, 0, 1, 2, 64, 100, 199, 200, 201, 202, 399, 400, 401, 402,
		500, 597, 598, 599, 600, 601, 1 << 32, 1<<32 + 1, math.MaxInt32, math.MaxInt - 600, math.MaxInt - 400, math.MaxInt - 1, math.MaxInt,
	}
	for _, first := range at {
		for _, count := range at {
			p := pool.New(first, count)
			right := first >= 0 && first <= 600 && count >= 1 && count <= 400 && first+count <= 600
			if (p != nil) != right {
				t.Errorf("New(%d, %d): is there a pool: %t", first, count, p != nil)
				continue
			}
			if right {
				holdsWhole(t, fmt.Sprintf("New(%d, %d)", first, count), p, &plain{first: first, state: make([]int, count)})
			}
		}
	}
}

func TestNewAtEachBound(t *testing.T) {
	for first := -2; first <= 603; first++ {
		for _, c := range []struct {
			count int
			right bool
		}{
			{0, false}, {1, first >= 0 && first <= 599}, {600 - first, first >= 200 && first <= 599}, {601 - first, false},
			{400, first >= 0 && first <= 200}, {401, false}, {-1, false},
		} {
			if p := pool.New(first, c.count); (p != nil) != c.right {
				t.Errorf("New(%d, %d): is there a pool: %t", first, c.count, p != nil)
			}
		}
	}
}

func TestNewPoolIsFree(t *testing.T) {
	for _, z := range sizes() {
		p := made(t, z.first, z.count)
		if p.Free() != z.count || p.Limbo() != 0 || len(p.Taken()) != 0 || p.Epoch() != 0 {
			t.Errorf("%v: Free %d, Limbo %d, Taken %v, Epoch %d", z, p.Free(), p.Limbo(), p.Taken(), p.Epoch())
		}
		if p.Settle() != 0 {
			t.Errorf("%v: some are in limbo", z)
		}
		all, e := p.Take(z.count)
		for i, place := range all {
			if place != z.first+i {
				t.Errorf("%v: the place %d of all is %d", z, i, place)
			}
		}
		if len(all) != z.count || e != api.OK {
			t.Errorf("%v: Take of all = %v, %d", z, all, e)
		}
	}
}

// taking tells what goes wrong where places are taken of a pool that is as a plain one.
func taking(t *testing.T, x *plain, n int) {
	t.Helper()
	p, y := of(t, x), x.clone()
	want, wrong := y.take(n)
	got, e := p.Take(n)
	if e != wrong || !same(got, want) {
		t.Errorf("%v: Take(%d) = %v, %d, want %v, %d", x, n, got, e, want, wrong)
	}
	holdsWhole(t, fmt.Sprintf("%v, behind Take(%d)", x, n), p, y)
}

func TestTakeOfEachSmallPool(t *testing.T) {
	for count := 1; count <= 5; count++ {
		for _, x := range states(7, count) {
			for n := -2; n <= count+2; n++ {
				taking(t, x, n)
			}
		}
	}
}

func TestTake(t *testing.T) {
	for _, z := range sizes() {
		for _, x := range patterns(z.first, z.count) {
			many := len(x.those(free))
			for _, n := range append(extremes(), 0, 1, 2, many-1, many, many+1, z.count, z.count+1) {
				taking(t, x, n)
			}
		}
	}
}

// A Take that is refused takes nothing, not even what there is.
func TestTakeRefused(t *testing.T) {
	for _, z := range sizes() {
		for _, x := range patterns(z.first, z.count) {
			p := of(t, x)
			many := len(x.those(free))
			for _, n := range []int{many + 1, z.count + 1, 601, math.MaxInt} {
				if got, e := p.Take(n); e != api.ErrSpace || len(got) != 0 {
					t.Errorf("%v: Take(%d) = %v, %d", x, n, got, e)
				}
			}
			for _, n := range []int{-1, -many - 1, -z.count - 1, math.MinInt} {
				if got, e := p.Take(n); e != api.ErrArg || len(got) != 0 {
					t.Errorf("%v: Take(%d) = %v, %d", x, n, got, e)
				}
			}
			holdsWhole(t, fmt.Sprint(x, ", behind refused ones"), p, x)
			if got, e := p.Take(many); e != api.OK || !same(got, x.those(free)) {
				t.Errorf("%v: Take(%d) behind refused ones = %v, %d", x, many, got, e)
			}
		}
	}
}

func TestTakeOneByOne(t *testing.T) {
	for _, z := range sizes() {
		for _, x := range patterns(z.first, z.count) {
			p := of(t, x)
			for _, want := range x.those(free) {
				if got, e := p.Take(1); e != api.OK || !same(got, []int{want}) {
					t.Fatalf("%v: Take(1) = %v, %d, want %d", x, got, e, want)
				}
			}
			if got, e := p.Take(1); e != api.ErrSpace || len(got) != 0 {
				t.Errorf("%v: Take(1) of none = %v, %d", x, got, e)
			}
			if got, e := p.Take(0); e != api.OK || len(got) != 0 {
				t.Errorf("%v: Take(0) of none = %v, %d", x, got, e)
			}
		}
	}
}

func TestUse(t *testing.T) {
	for _, z := range sizes() {
		for _, x := range patterns(z.first, z.count) {
			p, y := of(t, x), x.clone()
			for i := range x.state {
				place := z.first + i
				for range 2 {
					want := y.use(place)
					if got := p.Use(place); got != want {
						t.Errorf("%v: Use(%d) = %t", x, place, got)
					}
				}
				if i < 5 || i > z.count-5 {
					holds(t, fmt.Sprintf("%v, behind Use up to %d", x, place), p, y)
				}
			}
			holdsWhole(t, fmt.Sprint(x, ", each place used"), p, y)
		}
	}
}

// Use of one place alone changes that place alone.
func TestUseOfEachSmallPool(t *testing.T) {
	for count := 1; count <= 4; count++ {
		for _, x := range states(5, count) {
			for place := 3; place <= 5+count+2; place++ {
				p, y := of(t, x), x.clone()
				want := y.use(place)
				if got := p.Use(place); got != want {
					t.Errorf("%v: Use(%d) = %t", x, place, got)
				}
				holdsWhole(t, fmt.Sprintf("%v, behind Use(%d)", x, place), p, y)
			}
		}
	}
}

// A place in limbo is taken already: it stays there, and comes back with the others.
func TestUseOfLimbo(t *testing.T) {
	p := made(t, 10, 3)
	p.Take(2)
	p.Later([]int{10, 11})
	if p.Use(10) {
		t.Error("Use of a place in limbo: it was free")
	}
	if p.Limbo() != 2 || len(p.Taken()) != 0 || p.Give([]int{10}) != 0 {
		t.Errorf("Use of a place in limbo: Limbo %d, Taken %v", p.Limbo(), p.Taken())
	}
	if got := p.Settle(); got != 2 || p.Free() != 3 {
		t.Errorf("Settle = %d, Free %d", got, p.Free())
	}
}

func TestPlacesOutside(t *testing.T) {
	for _, z := range sizes() {
		for _, x := range patterns(z.first, z.count) {
			p := of(t, x)
			l := outside(z.first, z.count)
			for _, place := range l {
				if p.Use(place) {
					t.Errorf("%v: Use(%d) = true", x, place)
				}
				if give, later := p.Give([]int{place}), p.Later([]int{place}); give != 0 || later != 0 {
					t.Errorf("%v: Give, Later of %d = %d, %d", x, place, give, later)
				}
			}
			if give, later := p.Give(l), p.Later(l); give != 0 || later != 0 {
				t.Errorf("%v: Give, Later of places outside = %d, %d", x, give, later)
			}
			holdsWhole(t, fmt.Sprint(x, ", behind places outside"), p, x)
		}
	}
}

// giving tells what goes wrong where places come back, at once or later, to a pool that is as a plain one.
func giving(t *testing.T, x *plain, places []int) {
	t.Helper()
	p, y := of(t, x), x.clone()
	want := y.give(places)
	if got := p.Give(places); got != want {
		t.Errorf("%v: Give(%v) = %d, want %d", x, places, got, want)
	}
	holdsWhole(t, fmt.Sprintf("%v, behind Give(%v)", x, places), p, y)
	p, y = of(t, x), x.clone()
	want = y.later(places)
	if got := p.Later(places); got != want {
		t.Errorf("%v: Later(%v) = %d, want %d", x, places, got, want)
	}
	holdsWhole(t, fmt.Sprintf("%v, behind Later(%v)", x, places), p, y)
}

// Each list of up to three places of each pool of three, some of them outside, some more than once.
func TestGiveAndLaterOfEachFewPlaces(t *testing.T) {
	const first, count = 4, 3
	for _, x := range states(first, count) {
		giving(t, x, nil)
		giving(t, x, []int{})
		for a := first - 1; a <= first+count; a++ {
			giving(t, x, []int{a})
			for b := first - 1; b <= first+count; b++ {
				giving(t, x, []int{a, b})
				for c := first - 1; c <= first+count; c++ {
					giving(t, x, []int{a, b, c})
				}
			}
		}
	}
}

func TestGiveAndLater(t *testing.T) {
	for _, z := range sizes() {
		var all, down, twice, second []int
		for i := range z.count {
			place := z.first + i
			all = append(all, place)
			down = append(down, z.first+z.count-1-i)
			twice = append(twice, place, place)
			if i%2 == 1 {
				second = append(second, place)
			}
		}
		mixed := append(append(outside(z.first, z.count), all...), outside(z.first, z.count)...)
		for _, x := range patterns(z.first, z.count) {
			for _, l := range [][]int{nil, all, down, twice, second, mixed, append(slices.Clone(all), down...), x.those(free), x.those(taken), x.those(limbo)} {
				giving(t, x, l)
			}
		}
	}
}

// What a place becomes: given back it is given out again, in limbo it is not, and neither Give nor Later reaches it.
func TestGiveAndLaterOfOnePlace(t *testing.T) {
	p := made(t, 10, 2)
	p.Take(1)
	if got := p.Give([]int{10, 10, 10}); got != 1 {
		t.Errorf("Give of one place three times = %d", got)
	}
	if got, e := p.Take(1); e != api.OK || !same(got, []int{10}) {
		t.Errorf("Take(1) behind Give = %v, %d", got, e)
	}
	if got := p.Later([]int{10, 10, 10}); got != 1 || p.Limbo() != 1 {
		t.Errorf("Later of one place three times = %d, Limbo %d", got, p.Limbo())
	}
	if give, later := p.Give([]int{10}), p.Later([]int{10}); give != 0 || later != 0 {
		t.Errorf("Give, Later of a place in limbo = %d, %d", give, later)
	}
	if got, e := p.Take(1); e != api.OK || !same(got, []int{11}) {
		t.Errorf("Take(1) with 10 in limbo = %v, %d", got, e)
	}
	p.Settle()
	if give, later := p.Give([]int{10}), p.Later([]int{10}); give != 0 || later != 0 {
		t.Errorf("Give, Later of a free place = %d, %d", give, later)
	}
	if got, e := p.Take(1); e != api.OK || !same(got, []int{10}) {
		t.Errorf("Take(1) behind Settle = %v, %d", got, e)
	}
}

func TestSettle(t *testing.T) {
	settling := func(x *plain) {
		t.Helper()
		p, y := of(t, x), x.clone()
		want := y.settle()
		if got := p.Settle(); got != want {
			t.Errorf("%v: Settle = %d, want %d", x, got, want)
		}
		holdsWhole(t, fmt.Sprint(x, ", settled"), p, y)
		if got := p.Settle(); got != 0 {
			t.Errorf("%v: Settle for the second time = %d", x, got)
		}
		holdsWhole(t, fmt.Sprint(x, ", settled twice"), p, y)
	}
	for count := 1; count <= 5; count++ {
		for _, x := range states(0, count) {
			settling(x)
		}
	}
	for _, z := range sizes() {
		for _, x := range patterns(z.first, z.count) {
			settling(x)
		}
	}
}

// act does one act to both pools, and tells what goes wrong.
func act(t *testing.T, name string, p *pool.Pool, x *plain, kind, n int, places []int) {
	t.Helper()
	switch kind {
	case 0:
		want, wrong := x.take(n)
		if got, e := p.Take(n); e != wrong || !same(got, want) {
			t.Errorf("%s: Take(%d) = %v, %d, want %v, %d", name, n, got, e, want, wrong)
		}
	case 1:
		want := x.use(places[0])
		if got := p.Use(places[0]); got != want {
			t.Errorf("%s: Use(%d) = %t", name, places[0], got)
		}
	case 2:
		want := x.give(places)
		if got := p.Give(places); got != want {
			t.Errorf("%s: Give(%v) = %d, want %d", name, places, got, want)
		}
	case 3:
		want := x.later(places)
		if got := p.Later(places); got != want {
			t.Errorf("%s: Later(%v) = %d, want %d", name, places, got, want)
		}
	case 4:
		want := x.settle()
		if got := p.Settle(); got != want {
			t.Errorf("%s: Settle = %d, want %d", name, got, want)
		}
	case 5:
		want, wrong := x.gens(n)
		if got, e := p.Gens(n); got != want || e != wrong {
			t.Errorf("%s: Gens(%d) = %d, %d, want %d, %d", name, n, got, e, want, wrong)
		}
	case 6:
		epoch := x.epoch + uint64(n) // one below it of n -1
		want := x.begin(epoch)
		if got := p.Begin(epoch); got != want {
			t.Errorf("%s: Begin(%d) = %d, want %d", name, epoch, got, want)
		}
	}
	holds(t, name, p, x)
}

// Each sequence of four acts on two places.
func TestEachFewActs(t *testing.T) {
	const first, steps = 8, 4
	acts := []struct {
		name   string
		kind   int
		n      int
		places []int
	}{
		{"Take(1)", 0, 1, nil}, {"Take(2)", 0, 2, nil},
		{"Use(8)", 1, 0, []int{8}}, {"Use(9)", 1, 0, []int{9}},
		{"Give(8)", 2, 0, []int{8}}, {"Give(9, 8)", 2, 0, []int{9, 8}},
		{"Later(9)", 3, 0, []int{9}}, {"Later(8, 9)", 3, 0, []int{8, 9}},
		{"Settle", 4, 0, nil}, {"Gens(2)", 5, 2, nil}, {"Begin", 6, 1, nil},
	}
	all := 1
	for range steps {
		all *= len(acts)
	}
	for way := range all {
		p, x := made(t, first, 2), &plain{first: first, state: make([]int, 2)}
		rest, name := way, ""
		for range steps {
			one := acts[rest%len(acts)]
			rest /= len(acts)
			name += " " + one.name
			act(t, name, p, x, one.kind, one.n, one.places)
		}
		holdsWhole(t, name, p, x)
	}
}

func TestLongWays(t *testing.T) {
	for _, z := range sizes() {
		for _, weight := range [][]int{{0, 2, 3, 4, 5, 6}, {0, 0, 1, 1, 2, 3, 3, 4, 5, 5, 6}, {0, 3, 3, 3, 4, 5}, {0, 0, 0, 2, 3, 4, 5}} {
			next := numbers(uint64(z.first*1000 + z.count + len(weight)))
			p, x := made(t, z.first, z.count), &plain{first: z.first, state: make([]int, z.count)}
			for step := range 500 {
				var places []int
				for range next(z.count/2+3) + 1 {
					places = append(places, z.first-2+next(z.count+4))
				}
				kind, n := weight[next(len(weight))], next(z.count/3+4)-1
				if kind == 5 && next(4) == 0 {
					n = next(epochGens / 3)
				}
				act(t, fmt.Sprintf("%v, step %d", z, step), p, x, kind, n, places)
				if step%50 == 0 {
					holdsWhole(t, fmt.Sprintf("%v, behind step %d", z, step), p, x)
				}
			}
		}
	}
}

// P14.2

// telling tells what goes wrong where generations are told.
func telling(t *testing.T, name string, p *pool.Pool, n int, want uint64, wrong api.Errno) {
	t.Helper()
	if got, e := p.Gens(n); got != want || e != wrong {
		t.Errorf("%s: Gens(%d) = %d, %d, want %d, %d", name, n, got, e, want, wrong)
	}
}

// beginning begins an epoch that can begin.
func beginning(t *testing.T, p *pool.Pool, epoch uint64) {
	t.Helper()
	if e := p.Begin(epoch); e != api.OK || p.Epoch() != epoch {
		t.Fatalf("Begin(%d) = %d, Epoch %d", epoch, e, p.Epoch())
	}
}

func TestGensOneBehindTheOther(t *testing.T) {
	for _, epoch := range []uint64{0, 1, 2, 1 << 20, lastEpoch - 1, lastEpoch} {
		p := made(t, 3, 5)
		if epoch > 0 {
			beginning(t, p, epoch)
		}
		base := epoch * epochGens
		name := fmt.Sprint("epoch ", epoch)
		telling(t, name, p, 0, base, api.OK)
		telling(t, name, p, 1, base, api.OK)
		telling(t, name, p, 0, base+1, api.OK)
		telling(t, name, p, 0, base+1, api.OK)
		telling(t, name, p, 1, base+1, api.OK)
		telling(t, name, p, 7, base+2, api.OK)
		telling(t, name, p, 0, base+9, api.OK)
		telling(t, name, p, 1000, base+9, api.OK)
		telling(t, name, p, 1, base+1009, api.OK)
		telling(t, name, p, 0, base+1010, api.OK)
		if p.Epoch() != epoch {
			t.Errorf("%s: Epoch = %d behind Gens", name, p.Epoch())
		}
	}
}

func TestGensToAnEpochsEnd(t *testing.T) {
	for _, epoch := range []uint64{0, 1, 5, 1 << 39, lastEpoch - 1, lastEpoch} {
		for _, told := range []int{0, 1, 2, 1000, epochGens / 2, epochGens - 2, epochGens - 1, epochGens} {
			p := made(t, 0, 1)
			if epoch > 0 {
				beginning(t, p, epoch)
			}
			base := epoch * epochGens
			name := fmt.Sprintf("epoch %d, %d told", epoch, told)
			left := epochGens - told
			telling(t, name, p, told, base, api.OK)
			for _, n := range []int{left + 1, left + 2, epochGens + 1, 1 << 21, 1<<32 + 1, math.MaxInt - told, math.MaxInt - 1, math.MaxInt} {
				telling(t, name, p, n, 0, api.ErrSpace)
			}
			for _, n := range []int{-1, -2, -told - 1, -epochGens, math.MinInt32, math.MinInt + told, math.MinInt + 1, math.MinInt} {
				telling(t, name, p, n, 0, api.ErrArg)
			}
			telling(t, name, p, 0, base+uint64(told), api.OK)
			telling(t, name, p, left, base+uint64(told), api.OK)
			telling(t, name+", all told", p, 0, base+epochGens, api.OK) // the next epoch's first
			telling(t, name+", all told", p, 0, base+epochGens, api.OK)
			telling(t, name+", all told", p, 1, 0, api.ErrSpace)
			telling(t, name+", all told", p, -1, 0, api.ErrArg)
			if p.Epoch() != epoch {
				t.Errorf("%s: Epoch = %d behind all of them", name, p.Epoch())
			}
		}
	}
}

// Behind an epoch's last generation none is told until another epoch begins, whose first one is the one that came next.
func TestGensOfTheNextEpoch(t *testing.T) {
	p := made(t, 0, 1)
	beginning(t, p, 6)
	telling(t, "epoch 6", p, epochGens, 6*epochGens, api.OK)
	telling(t, "epoch 6, all told", p, 0, 7*epochGens, api.OK)
	telling(t, "epoch 6, all told", p, 1, 0, api.ErrSpace)
	beginning(t, p, 7)
	telling(t, "epoch 7", p, 0, 7*epochGens, api.OK)
	telling(t, "epoch 7", p, 3, 7*epochGens, api.OK)
	telling(t, "epoch 7", p, epochGens-2, 0, api.ErrSpace)
	telling(t, "epoch 7", p, epochGens-3, 7*epochGens+3, api.OK)
}

func TestGensOfTheLastEpoch(t *testing.T) {
	p := made(t, 0, 1)
	beginning(t, p, lastEpoch)
	telling(t, "the last epoch", p, epochGens-1, lastEpoch*epochGens, api.OK)
	telling(t, "the last epoch", p, 1, 1<<60-1, api.OK)
	telling(t, "the last epoch, all told", p, 0, 1<<60, api.OK)
	telling(t, "the last epoch, all told", p, 1, 0, api.ErrSpace)
	for _, epoch := range []uint64{0, lastEpoch, lastEpoch + 1, lastEpoch + 2, math.MaxUint64} {
		if e := p.Begin(epoch); e != api.ErrArg {
			t.Errorf("Begin(%d) behind the last epoch = %d", epoch, e)
		}
	}
	telling(t, "the last epoch, all told", p, 0, 1<<60, api.OK)
}

func TestBegin(t *testing.T) {
	for _, epoch := range []uint64{0, 1, 2, 3, 1 << 20, 1 << 32, 1<<40 - 3, 1<<40 - 2, 1<<40 - 1} {
		for _, to := range []uint64{
			epoch - 2, epoch - 1, epoch, epoch + 1, epoch + 2, 0, 1, 1 << 20, 1<<40 - 2, 1<<40 - 1, 1 << 40, 1<<40 + 1, 1<<40 + epoch + 1,
			1<<60 - 1, 1 << 60, 1 << 63, 1<<63 + epoch + 1, math.MaxUint64 - 1, math.MaxUint64,
		} {
			p, x := made(t, 0, 3), &plain{state: make([]int, 3)}
			if epoch > 0 {
				beginning(t, p, epoch)
			}
			x.begin(epoch)
			p.Take(2)
			x.take(2)
			p.Later([]int{1})
			x.later([]int{1})
			telling(t, "ahead of Begin", p, 10, epoch*epochGens, api.OK)
			x.gens(10)
			want := x.begin(to)
			if right := to > epoch && to < 1<<40; right != (want == api.OK) {
				t.Fatalf("from %d to %d: the plain pool says %d", epoch, to, want)
			}
			name := fmt.Sprintf("Begin(%d) behind epoch %d", to, epoch)
			if e := p.Begin(to); e != want {
				t.Errorf("%s = %d, want %d", name, e, want)
			}
			holdsWhole(t, name, p, x)
			if want == api.OK { // the counts begin anew
				telling(t, name, p, 4, to*epochGens, api.OK)
				telling(t, name, p, epochGens-4, to*epochGens+4, api.OK)
			} else {
				telling(t, name, p, 4, epoch*epochGens+10, api.OK)
				telling(t, name, p, epochGens-13, 0, api.ErrSpace)
			}
		}
	}
}

// P14.3

// nobodys are pools that New didn't make.
func nobodys() map[string]*pool.Pool {
	return map[string]*pool.Pool{"nil": nil, "zero": {}, "new": new(pool.Pool), "refused": pool.New(-1, 5)}
}

func TestPoolsThatNewDidntMake(t *testing.T) {
	at := append(append(extremes(), outside(0, 400)...), 0, 1, 2, 5, 400)
	for name, p := range nobodys() {
		for range 2 {
			if p.Free() != 0 || p.Limbo() != 0 || len(p.Taken()) != 0 || p.Settle() != 0 || p.Epoch() != 0 {
				t.Errorf("%s: Free %d, Limbo %d, Taken %v, Epoch %d", name, p.Free(), p.Limbo(), p.Taken(), p.Epoch())
			}
			for _, i := range at {
				if l, e := p.Take(i); len(l) != 0 || e != api.ErrNil {
					t.Errorf("%s: Take(%d) = %v, %d", name, i, l, e)
				}
				if p.Use(i) {
					t.Errorf("%s: Use(%d) = true", name, i)
				}
				if give, later := p.Give([]int{i, 0}), p.Later([]int{i, 0}); give != 0 || later != 0 {
					t.Errorf("%s: Give, Later of %d = %d, %d", name, i, give, later)
				}
				telling(t, name, p, i, 0, api.ErrNil)
				if e := p.Begin(uint64(i)); e != api.ErrNil {
					t.Errorf("%s: Begin(%d) = %d", name, uint64(i), e)
				}
			}
			if give, later := p.Give(at), p.Later(at); give != 0 || later != 0 {
				t.Errorf("%s: Give, Later = %d, %d", name, give, later)
			}
			if give, later := p.Give(nil), p.Later(nil); give != 0 || later != 0 {
				t.Errorf("%s: Give, Later of none = %d, %d", name, give, later)
			}
			if p.Copy() != nil {
				t.Errorf("%s: there is a copy", name)
			}
		}
		if p != nil && !reflect.DeepEqual(p, &pool.Pool{}) {
			t.Errorf("%s: it was changed", name)
		}
	}
}

func TestCopy(t *testing.T) {
	for _, z := range sizes() {
		for _, x := range patterns(z.first, z.count) {
			p := of(t, x)
			beginning(t, p, 9)
			p.Gens(20)
			was := x.clone()
			was.epoch, was.told = 9, 20
			c := p.Copy()
			if c == nil || c == p {
				t.Fatalf("%v: no copy of its own", x)
			}
			name := fmt.Sprint(x)
			holdsWhole(t, name+", copied", c, was)

			now := was.clone() // the first is changed, the copy isn't
			changed(p, now, 3)
			holdsWhole(t, name+", the first changed", p, now)
			holdsWhole(t, name+", a copy of what it was", c, was)

			second, other := p.Copy(), now.clone() // a copy is changed, the first isn't
			changed(second, other, 50)
			holdsWhole(t, name+", a second copy changed", second, other)
			holdsWhole(t, name+", its copy changed", p, now)
			holdsWhole(t, name+", another copy changed", c, was)
		}
	}
}

// changed does a little of all to a pool, and to a plain one.
func changed(p *pool.Pool, x *plain, n int) {
	l := x.those(taken)
	l = l[:len(l)/2]
	p.Give(l)
	x.give(l)
	p.Settle()
	x.settle()
	l = x.those(taken)
	p.Later(l)
	x.later(l)
	l, _ = x.take(len(x.those(free)) / 3)
	p.Take(len(l))
	p.Use(x.first + len(x.state)/2)
	x.use(x.first + len(x.state)/2)
	p.Gens(n)
	x.gens(n)
	epoch := x.epoch + uint64(n)
	p.Begin(epoch)
	x.begin(epoch)
	p.Gens(2 * n)
	x.gens(2 * n)
}

// Each goes on from where the first one was, as if there were no others.
func TestCopyGoesOn(t *testing.T) {
	p := made(t, 20, 6)
	p.Take(3)
	p.Later([]int{21})
	p.Gens(5)
	c := p.Copy()
	for i, one := range []*pool.Pool{p, c, p.Copy(), c.Copy()} {
		name := fmt.Sprint("copy ", i)
		if l, e := one.Take(2); e != api.OK || !same(l, []int{23, 24}) {
			t.Errorf("%s: Take(2) = %v, %d", name, l, e)
		}
		telling(t, name, one, 2, 5, api.OK)
		if got := one.Give([]int{20, 23, 24}); got != 3 {
			t.Errorf("%s: Give = %d", name, got)
		}
		beginning(t, one, 1)
		telling(t, name, one, 1, epochGens, api.OK)
		if got := one.Settle(); got != 1 {
			t.Errorf("%s: Settle = %d", name, got)
		}
		if l, e := one.Take(5); e != api.OK || !same(l, []int{20, 21, 23, 24, 25}) {
			t.Errorf("%s: Take(5) = %v, %d", name, l, e)
		}
	}
}

func TestPoolsKnowNothingOfOneAnother(t *testing.T) {
	a, b := made(t, 3, 70), made(t, 3, 70)
	a.Take(70)
	a.Later([]int{3, 4, 72})
	a.Gens(100)
	a.Begin(4)
	holdsWhole(t, "another one", b, &plain{first: 3, state: make([]int, 70)})
	holdsWhole(t, "a third one", made(t, 3, 70), &plain{first: 3, state: make([]int, 70)})
}

// P14.4

// No place is given out twice, as long as it doesn't come back; what goes to limbo isn't given out ahead of the next Settle.
func TestNoPlaceIsGivenOutTwice(t *testing.T) {
	for _, z := range sizes() {
		next := numbers(uint64(z.count))
		p := made(t, z.first, z.count)
		out := map[int]bool{} // given out, and not come back
		for step := range 2000 {
			switch next(5) {
			case 0, 1:
				l, _ := p.Take(next(z.count/4 + 2))
				for _, place := range l {
					if out[place] || place < z.first || place >= z.first+z.count {
						t.Fatalf("%v, step %d: %d is given out", z, step, place)
					}
					out[place] = true
				}
			case 2:
				place := z.first + next(z.count)
				if p.Use(place) == out[place] {
					t.Fatalf("%v, step %d: Use(%d) = %t", z, step, place, !out[place])
				}
				out[place] = true
			case 3:
				for range 1 + z.count/8 {
					l := []int{z.first + next(z.count)}
					if next(2) == 0 && p.Give(l) == 1 {
						delete(out, l[0])
					} else {
						p.Later(l)
					}
				}
			case 4:
				if next(3) > 0 {
					continue
				}
				was := p.Taken()
				p.Settle()
				clear(out)
				for _, place := range was {
					out[place] = true
				}
			}
			if p.Free()+len(out) != z.count || p.Free()+p.Limbo()+len(p.Taken()) != z.count {
				t.Fatalf("%v, step %d: Free %d, Limbo %d, Taken %d, %d out", z, step, p.Free(), p.Limbo(), len(p.Taken()), len(out))
			}
		}
	}
}

// No generation is told twice, over Gens and Begin in any order: those told rise, and each run ends ahead of the next one.
func TestNoGenerationIsToldTwice(t *testing.T) {
	for seed := range 40 {
		next := numbers(uint64(seed))
		p := made(t, 0, 1)
		behind := uint64(0) // above all that were told
		for step := range 500 {
			if next(4) == 0 {
				epoch := p.Epoch() + uint64(next(5)) - 2
				if next(10) == 0 {
					epoch = uint64(next(1 << 30))
				}
				p.Begin(epoch)
				continue
			}
			n := next(20) - 1
			if next(3) == 0 {
				n = next(epochGens + 10)
			}
			gen, e := p.Gens(n)
			if e != api.OK {
				if gen != 0 || n > 0 && e != api.ErrSpace || n < 0 && e != api.ErrArg || n == 0 {
					t.Fatalf("way %d, step %d: Gens(%d) = %d, %d", seed, step, n, gen, e)
				}
				continue
			}
			if gen < behind || n > 0 && (gen/epochGens != p.Epoch() || (gen+uint64(n)-1)/epochGens != p.Epoch()) {
				t.Fatalf("way %d, step %d: Gens(%d) = %d in epoch %d, behind %d", seed, step, n, gen, p.Epoch(), behind)
			}
			behind = gen + uint64(n)
		}
	}
}

// One by one each of an epoch's generations is told, and no other one.
func TestEachGenerationOfAnEpoch(t *testing.T) {
	p := made(t, 0, 1)
	beginning(t, p, 3)
	for i := range uint64(epochGens) {
		if gen, e := p.Gens(1); gen != 3*epochGens+i || e != api.OK {
			t.Fatalf("Gens(1) = %d, %d, want %d", gen, e, 3*epochGens+i)
		}
	}
	telling(t, "all told", p, 1, 0, api.ErrSpace)
}

// Gens that is refused tells none: what comes next is what would have come.
func TestGensRefused(t *testing.T) {
	p := made(t, 0, 1)
	telling(t, "none told", p, epochGens+1, 0, api.ErrSpace)
	telling(t, "none told", p, 0, 0, api.OK)
	telling(t, "none told", p, 1000, 0, api.OK)
	for _, n := range []int{epochGens - 999, epochGens, math.MaxInt} {
		telling(t, "1000 told", p, n, 0, api.ErrSpace)
		telling(t, "behind a refused one", p, 0, 1000, api.OK)
	}
	for _, n := range []int{-1, -1000, math.MinInt} {
		telling(t, "1000 told", p, n, 0, api.ErrArg)
		telling(t, "behind a refused one", p, 0, 1000, api.OK)
	}
	telling(t, "behind refused ones", p, epochGens-1000, 1000, api.OK)
}

// R1

func TestNoCallPanics(t *testing.T) {
	all := nobodys()
	for _, z := range sizes() {
		all[fmt.Sprint(z)] = pool.New(z.first, z.count)
	}
	at := append(append(extremes(), outside(0, 400)...), outside(200, 400)...)
	at = append(at, 0, 1, 2, 10, 399, 599, 600)
	for name, p := range all {
		t.Run(name, func(t *testing.T) {
			for _, i := range at {
				for range 2 {
					p.Take(i)
					p.Use(i)
					p.Later([]int{i, i})
					p.Use(i)
					p.Give([]int{i, i, i + 1})
				}
				p.Give(at)
				p.Gens(i)
				p.Begin(uint64(i))
				p.Begin(uint64(i) % (1 << 40))
				p.Later(at)
				p.Free()
				p.Limbo()
				p.Taken()
				p.Epoch()
				p.Copy().Take(1)
				p.Settle()
				pool.New(i, 1)
				pool.New(1, i)
				pool.New(i, i)
			}
			p.Give(nil)
			p.Later(nil)
		})
	}
}

// R3

// spoil changes a list, and what is behind it.
func spoil(l []int) {
	longer := append(l, -7, -8, -9)
	for i := range longer {
		longer[i] = -1 - i
	}
	for i := range l {
		l[i] = 77
	}
}

func TestAnswersAreTheCallers(t *testing.T) {
	for _, z := range sizes() {
		for _, x := range patterns(z.first, z.count) {
			p, y := of(t, x), x.clone()
			want, _ := y.take(len(x.those(free)) / 2)
			got, _ := p.Take(len(want))
			list, other := p.Taken(), p.Taken()
			spoil(got)
			spoil(list)
			if !same(other, y.those(taken)) {
				t.Errorf("%v: Taken = %v, behind changes of another answer", x, other)
			}
			holdsWhole(t, fmt.Sprint(x, ", with spoilt answers"), p, y)
			spoil(p.Taken())
			holdsWhole(t, fmt.Sprint(x, ", with answers spoilt again"), p, y)
		}
	}
}

func TestLaterCallsChangeNoAnswer(t *testing.T) {
	for _, z := range sizes() {
		for _, x := range patterns(z.first, z.count) {
			p, y := of(t, x), x.clone()
			want, _ := y.take(len(x.those(free)) / 2)
			got, _ := p.Take(len(want))
			list := p.Taken()
			p.Give(list)
			p.Settle()
			spoil(p.Taken())
			l, _ := p.Take(z.count)
			spoil(l)
			p.Later(got)
			if !same(got, want) || !same(list, y.those(taken)) {
				t.Errorf("%v: %v and %v, behind later calls", x, got, list)
			}
		}
	}
}

// What is handed in isn't changed, nor is what is behind it, and it may be changed behind the call.
func TestListsHandedIn(t *testing.T) {
	for _, z := range sizes() {
		for _, x := range patterns(z.first, z.count) {
			p, y := of(t, x), x.clone()
			back := append(outside(z.first, z.count), x.those(taken)...)
			slices.Reverse(back)
			was := slices.Clone(back)
			half := len(back) / 2
			if got, want := p.Later(back[:half]), y.later(was[:half]); got != want {
				t.Errorf("%v: Later(%v) = %d, want %d", x, was[:half], got, want)
			}
			if !same(back, was) {
				t.Errorf("%v: Later made %v of %v", x, back, was)
			}
			spoil(back[:half:half])
			copy(back, was)
			if got, want := p.Give(back[:len(back)-1]), y.give(was[:len(was)-1]); got != want {
				t.Errorf("%v: Give(%v) = %d, want %d", x, was, got, want)
			}
			if !same(back, was) {
				t.Errorf("%v: Give made %v of %v", x, back, was)
			}
			spoil(back)
			holdsWhole(t, fmt.Sprint(x, ", with lists spoilt that were handed in"), p, y)
		}
	}
}

func TestSameAnswers(t *testing.T) {
	for _, z := range sizes() {
		for _, x := range patterns(z.first, z.count) {
			a, b := of(t, x), of(t, x)
			if a.Free() != b.Free() || a.Limbo() != b.Limbo() || !same(a.Taken(), a.Taken()) || !same(a.Taken(), b.Taken()) {
				t.Errorf("%v: another answer of another pool", x)
			}
			l, e := a.Take(3)
			other, f := b.Take(3)
			if !same(l, other) || e != f {
				t.Errorf("%v: Take(3) = %v, %d, and %v, %d", x, l, e, other, f)
			}
		}
	}
}
