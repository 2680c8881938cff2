package bitmap_test

import (
	"fmt"
	"math"
	"reflect"
	"slices"
	"testing"

	"ciborium/bitmap"
)

// plain is a map that is kept in a plain way: whether each place is taken.
type plain []bool

func (p plain) within(i int) bool { return 0 <= i && i < len(p) }

func (p plain) has(i int) bool { return p.within(i) && p[i] }

func (p plain) set(i int, on bool) bool {
	if !p.within(i) || p[i] == on {
		return false
	}
	p[i] = on
	return true
}

// those answers the places that are taken, or those that aren't, rising.
func (p plain) those(taken bool) []int {
	var l []int
	for i, is := range p {
		if is == taken {
			l = append(l, i)
		}
	}
	return l
}

func (p plain) first(from int) int { return p.run(from, 1) }

func (p plain) run(from, many int) int {
	if many < 1 || from > len(p) {
		return -1
	}
	for at := max(from, 0); many <= len(p)-at; at++ {
		if !slices.Contains(p[at:at+many], true) {
			return at
		}
	}
	return -1
}

func (p plain) least(many int) []int {
	free := p.those(false)
	if many < 1 || many > len(free) {
		return nil
	}
	return free[:many]
}

// same tells whether two lists hold the same, a nil one being as an empty one.
func same(a, b []int) bool { return slices.Equal(a, b) }

// made answers a map that there must be.
func made(t *testing.T, n int) *bitmap.Map {
	t.Helper()
	m := bitmap.New(n)
	if m == nil {
		t.Fatalf("no map of %d places", n)
	}
	return m
}

// of answers a map of the places that p takes.
func of(t *testing.T, p plain) *bitmap.Map {
	t.Helper()
	m := made(t, len(p))
	for i, on := range p {
		if m.Set(i, on) != on {
			t.Fatalf("Set(%d, %t) of a new map of %d places = %t", i, on, len(p), !on)
		}
	}
	return m
}

// beyond are numbers that no place has, of a map of n.
func beyond(n int) []int {
	return []int{
		-1, -2, -63, -64, -65, -n, -n - 1, -65536, math.MinInt32, math.MinInt + 1, math.MinInt,
		n, n + 1, n + 63, n + 64, n + 65, 65536 + n, 1<<32 + n, math.MaxInt32 + n, math.MaxInt - 1, math.MaxInt,
	}
}

// holds tells what goes wrong where a map is to be like a plain one, in what is taken.
func holds(t *testing.T, name string, m *bitmap.Map, p plain) {
	t.Helper()
	if m.Len() != len(p) {
		t.Errorf("%s: Len = %d, want %d", name, m.Len(), len(p))
	}
	list := p.those(true)
	if m.Count() != len(list) {
		t.Errorf("%s: Count = %d, want %d", name, m.Count(), len(list))
	}
	if got := m.List(); !same(got, list) {
		t.Errorf("%s: List = %v, want %v", name, got, list)
	}
	for i := range p {
		if m.Has(i) != p[i] {
			t.Errorf("%s: Has(%d) = %t", name, i, m.Has(i))
		}
	}
	for _, i := range beyond(len(p)) {
		if m.Has(i) {
			t.Errorf("%s: Has(%d) = true, of %d places", name, i, len(p))
		}
	}
}

// looked tells what goes wrong where a map is looked at for places that aren't taken: from each place on, for each many.
func looked(t *testing.T, name string, m *bitmap.Map, p plain) {
	t.Helper()
	from := beyond(len(p))
	for i := range p {
		from = append(from, i)
	}
	many := append(slices.Clone(from), len(p)-1, len(p)-63, len(p)-64)
	for _, i := range from {
		if got, want := m.First(i), p.first(i); got != want {
			t.Errorf("%s: First(%d) = %d, want %d", name, i, got, want)
		}
		for _, k := range many {
			if got, want := m.Run(i, k), p.run(i, k); got != want {
				t.Errorf("%s: Run(%d, %d) = %d, want %d", name, i, k, got, want)
			}
		}
	}
	free := len(p) - len(p.those(true))
	for _, k := range append(many, free-1, free, free+1) {
		if got, want := m.Least(k), p.least(k); !same(got, want) {
			t.Errorf("%s: Least(%d) = %v, want %v", name, k, got, want)
		}
	}
}

// sizes are those of the maps that are gone through whole: all small ones, and those about the ends of words.
func sizes() []int {
	return []int{0, 1, 2, 3, 4, 5, 6, 7, 31, 32, 33, 62, 63, 64, 65, 66, 127, 128, 129, 130}
}

// pattern is a rule by which places are taken.
type pattern struct {
	name  string
	taken func(i, n int) bool
}

// patterns are rules with none, all and some taken, with runs that begin and end at the first and the last place, and about the ends of words.
func patterns() []pattern {
	l := []pattern{
		{"none", func(i, n int) bool { return false }},
		{"all", func(i, n int) bool { return true }},
		{"the first", func(i, n int) bool { return i == 0 }},
		{"the last", func(i, n int) bool { return i == n-1 }},
		{"all but the first", func(i, n int) bool { return i != 0 }},
		{"all but the last", func(i, n int) bool { return i != n-1 }},
		{"the even ones", func(i, n int) bool { return i%2 == 0 }},
		{"the odd ones", func(i, n int) bool { return i%2 == 1 }},
		{"one of three", func(i, n int) bool { return i%3 == 2 }},
		{"one of 7", func(i, n int) bool { return i%7 == 0 }},
		{"the lower half", func(i, n int) bool { return i < n/2 }},
		{"the upper half", func(i, n int) bool { return i >= n/2 }},
		{"the first word", func(i, n int) bool { return i < 64 }},
		{"the second word", func(i, n int) bool { return i >= 64 && i < 128 }},
		{"63 and 64", func(i, n int) bool { return i == 63 || i == 64 }},
		{"all but 63 and 64", func(i, n int) bool { return i != 63 && i != 64 }},
		{"all but 60 to 67", func(i, n int) bool { return i < 60 || i > 67 }},
		{"runs of 1, 2, 3 ..", func(i, n int) bool {
			at := 0
			for size := 1; at <= i; size++ {
				at += size
				if at == i {
					return true
				}
				at++
			}
			return false
		}},
	}
	for _, only := range []int{62, 63, 64, 65} {
		l = append(l,
			pattern{fmt.Sprint("only ", only), func(i, n int) bool { return i == only }},
			pattern{fmt.Sprint("all but ", only), func(i, n int) bool { return i != only }})
	}
	return l
}

// of answers a plain map of n places that the pattern takes.
func (x pattern) of(n int) plain {
	p := make(plain, n)
	for i := range p {
		p[i] = x.taken(i, n)
	}
	return p
}

// numbers answers a function that tells one number behind the other, in no plain order, but always the same ones.
func numbers(seed uint64) func(below int) int {
	return func(below int) int {
		seed = seed*6364136223846793005 + 1442695040888963407
		return int(seed >> 33 % uint64(below))
	}
}

func TestExamples(t *testing.T) {
	m := made(t, 5)
	m.Set(1, true)
	if got := m.Least(3); !same(got, []int{0, 2, 3}) {
		t.Errorf("Least(3) = %v", got)
	}
	if got := m.Run(0, 2); got != 2 {
		t.Errorf("Run(0, 2) = %d", got)
	}
}

// P12.1

func TestNew(t *testing.T) {
	for _, n := range []int{0, 1, 2, 63, 64, 65, 127, 128, 129, 1000, 65535, 65536} {
		m := bitmap.New(n)
		if m == nil {
			t.Errorf("no map of %d places", n)
			continue
		}
		holds(t, fmt.Sprint("new, of ", n), m, make(plain, n))
	}
	for _, n := range []int{-1, -2, -64, -65536, math.MinInt32, math.MinInt + 1, math.MinInt, 65537, 65538, 65600, 1 << 17, 1 << 32, 1<<32 + 5, math.MaxInt - 63, math.MaxInt - 1, math.MaxInt} {
		if m := bitmap.New(n); m != nil {
			t.Errorf("a map of %d places, of %d", m.Len(), n)
		}
	}
}

func TestSetOfEachPlace(t *testing.T) {
	for _, n := range sizes() {
		for _, x := range patterns() {
			p := x.of(n)
			m := of(t, p)
			for i := range p {
				for _, on := range []bool{p[i], !p[i], !p[i], p[i], p[i]} {
					want := p.set(i, on)
					if got := m.Set(i, on); got != want {
						t.Errorf("%s of %d: Set(%d, %t) = %t", x.name, n, i, on, got)
					}
					if m.Has(i) != on {
						t.Errorf("%s of %d: Has(%d) = %t behind Set(%t)", x.name, n, i, !on, on)
					}
				}
			}
			holds(t, fmt.Sprint(x.name, " of ", n), m, p)
		}
	}
}

func TestSetChangesNoOtherPlace(t *testing.T) {
	for _, n := range []int{1, 5, 63, 64, 65, 129} {
		for _, x := range patterns()[:10] {
			p := x.of(n)
			m := of(t, p)
			for i := range p {
				was := p[i]
				p.set(i, !was)
				m.Set(i, !was)
				holds(t, fmt.Sprintf("%s of %d, %d changed", x.name, n, i), m, p)
				p.set(i, was)
				m.Set(i, was)
			}
			holds(t, fmt.Sprintf("%s of %d, all as before", x.name, n), m, p)
		}
	}
}

func TestSetOfNoPlace(t *testing.T) {
	for _, n := range append(sizes(), 65536) {
		for _, x := range patterns()[:3] {
			p := x.of(n)
			m := of(t, p)
			for _, i := range beyond(n) {
				for _, on := range []bool{true, false, true} {
					if m.Set(i, on) {
						t.Errorf("%s of %d: Set(%d, %t) = true", x.name, n, i, on)
					}
					if m.Has(i) {
						t.Errorf("%s of %d: Has(%d) = true behind Set(%t)", x.name, n, i, on)
					}
				}
			}
			name := fmt.Sprintf("%s of %d, behind places that it hasn't", x.name, n)
			holds(t, name, m, p)
			if free := n - len(p.those(true)); !same(m.Least(free), p.least(free)) || m.Least(free+1) != nil {
				t.Errorf("%s: Least isn't the %d that are free", name, free)
			}
		}
	}
}

func TestListsOfNone(t *testing.T) {
	for _, n := range []int{0, 1, 64, 65} {
		m := made(t, n)
		if l := m.List(); len(l) != 0 {
			t.Errorf("List of none of %d = %v", n, l)
		}
		m.Set(n-1, true)
		m.Set(n-1, false)
		if l := m.List(); len(l) != 0 || m.Count() != 0 {
			t.Errorf("List of %d, the last one given back = %v, Count %d", n, l, m.Count())
		}
	}
}

// Each way to take and give back three places, four steps long.
func TestEachFewSteps(t *testing.T) {
	const places, steps = 3, 4
	all := 1
	for range steps {
		all *= 2 * places
	}
	for way := range all {
		m, p := made(t, places), make(plain, places)
		rest, name := way, ""
		for range steps {
			i, on := rest%places, rest/places%2 == 0
			rest /= 2 * places
			name += fmt.Sprintf(" Set(%d, %t)", i, on)
			if got, want := m.Set(i, on), p.set(i, on); got != want {
				t.Errorf("%s = %t", name, got)
			}
			holds(t, name, m, p)
			looked(t, name, m, p)
		}
	}
}

func TestLongWays(t *testing.T) {
	for _, n := range []int{1, 7, 64, 100, 200, 400} {
		next := numbers(uint64(n))
		m, p := made(t, n), make(plain, n)
		for step := range 600 {
			i, on := next(n+4)-2, next(3) > 0
			name := fmt.Sprintf("of %d, step %d: Set(%d, %t)", n, step, i, on)
			if got, want := m.Set(i, on), p.set(i, on); got != want {
				t.Errorf("%s = %t", name, got)
			}
			holds(t, name, m, p)
			from, many := next(n+4)-2, next(n/8+3)
			if got, want := m.First(from), p.first(from); got != want {
				t.Errorf("%s: First(%d) = %d, want %d", name, from, got, want)
			}
			if got, want := m.Run(from, many), p.run(from, many); got != want {
				t.Errorf("%s: Run(%d, %d) = %d, want %d", name, from, many, got, want)
			}
			if got, want := m.Least(many), p.least(many); !same(got, want) {
				t.Errorf("%s: Least(%d) = %v, want %v", name, many, got, want)
			}
		}
	}
}

func TestGreatestMap(t *testing.T) {
	const n = 65536
	m := made(t, n)
	all := make([]int, n)
	for i := range all {
		all[i] = i
	}
	if !same(m.Least(n), all) || m.Least(n+1) != nil || m.Run(0, n) != 0 || m.Run(1, n) != -1 || m.Run(0, n+1) != -1 || m.Run(1, n-1) != 1 {
		t.Error("none taken: not all of them are free")
	}
	for i := range all {
		if m.First(0) != i || m.Run(0, 1) != i || m.Has(i) {
			t.Fatalf("place %d isn't the first one behind those taken: First %d, Run %d, Has %t", i, m.First(0), m.Run(0, 1), m.Has(i))
		}
		if i%641 == 0 && (m.Run(0, n-i) != i || m.Run(0, n-i+1) != -1) {
			t.Fatalf("Run isn't the %d places from %d on: %d, %d", n-i, i, m.Run(0, n-i), m.Run(0, n-i+1))
		}
		if !m.Set(i, true) || !m.Has(i) || m.Set(i, true) {
			t.Fatalf("place %d isn't taken", i)
		}
	}
	if m.Count() != n || !same(m.List(), all) {
		t.Errorf("all taken: Count = %d", m.Count())
	}
	for i := range all {
		if m.First(i) != -1 || m.Run(i, 1) != -1 {
			t.Fatalf("all taken: First(%d) = %d", i, m.First(i))
		}
	}
	if m.Least(1) != nil {
		t.Errorf("all taken: Least(1) = %v", m.Least(1))
	}
	for _, i := range []int{0, 63, 64, 32767, 32768, 65535} {
		if !m.Set(i, false) || m.First(-5) != i || !same(m.Least(1), []int{i}) || m.Count() != n-1 || m.First(i+1) != -1 {
			t.Errorf("place %d alone isn't free", i)
		}
		m.Set(i, true)
	}
}

// P12.2

func TestLooking(t *testing.T) {
	for _, n := range sizes() {
		for _, x := range patterns() {
			p := x.of(n)
			m := of(t, p)
			name := fmt.Sprint(x.name, " of ", n)
			looked(t, name, m, p)
			holds(t, name+", looked at", m, p)
		}
	}
}

func TestLookingAtEachSmallMap(t *testing.T) {
	for n := range 8 {
		for bits := range 1 << n {
			p := make(plain, n)
			for i := range p {
				p[i] = bits>>i&1 == 1
			}
			m := of(t, p)
			name := fmt.Sprintf("%0*b of %d", n, bits, n)
			holds(t, name, m, p)
			looked(t, name, m, p)
		}
	}
}

// Each run of places that aren't taken, alone among taken ones, is found from each place on as long as it goes.
func TestEachRunAlone(t *testing.T) {
	const n = 70
	for first := range n {
		for behind := first + 1; behind <= n; behind++ {
			p := make(plain, n)
			for i := range p {
				p[i] = i < first || i >= behind
			}
			m := of(t, p)
			for _, from := range []int{math.MinInt, -1, 0, first - 1, first, first + 1, behind - 1, behind, behind + 1, n, math.MaxInt} {
				begins := max(from, first)
				for _, many := range []int{1, 2, behind - first - 1, behind - first, behind - first + 1, behind - begins, n, n + 1, math.MaxInt} {
					want := -1
					if many >= 1 && begins < behind && many <= behind-begins {
						want = begins
					}
					if got := m.Run(from, many); got != want {
						t.Errorf("free from %d to %d: Run(%d, %d) = %d, want %d", first, behind-1, from, many, got, want)
					}
				}
			}
		}
	}
}

func TestRunOfNone(t *testing.T) {
	for _, n := range sizes() {
		m := made(t, n)
		for _, many := range []int{0, -1, -2, -n, -64, math.MinInt + 1, math.MinInt} {
			for _, from := range []int{math.MinInt, -1, 0, n / 2, n, math.MaxInt} {
				if got := m.Run(from, many); got != -1 {
					t.Errorf("of %d: Run(%d, %d) = %d", n, from, many, got)
				}
			}
			if got := m.Least(many); len(got) != 0 {
				t.Errorf("of %d: Least(%d) = %v", n, many, got)
			}
		}
	}
}

// What is told is cut at the first that does: of several runs the first, not the longest one.
func TestFirstOfSeveralRuns(t *testing.T) {
	m := made(t, 12)
	for _, i := range []int{0, 2, 5, 6, 10} { // free: 1; 3, 4; 7, 8, 9; 11
		m.Set(i, true)
	}
	for _, c := range []struct{ from, many, want int }{
		{0, 1, 1}, {0, 2, 3}, {0, 3, 7}, {0, 4, -1},
		{1, 1, 1}, {2, 1, 3}, {3, 2, 3}, {4, 2, 7}, {4, 1, 4}, {5, 1, 7}, {7, 3, 7}, {8, 3, -1}, {8, 2, 8}, {9, 1, 9}, {9, 2, -1}, {10, 1, 11}, {11, 1, 11}, {11, 2, -1}, {12, 1, -1},
	} {
		if got := m.Run(c.from, c.many); got != c.want {
			t.Errorf("Run(%d, %d) = %d, want %d", c.from, c.many, got, c.want)
		}
	}
}

// P12.3

// nobodys are maps that New didn't make.
func nobodys() map[string]*bitmap.Map {
	return map[string]*bitmap.Map{"nil": nil, "zero": {}, "new": new(bitmap.Map)}
}

func TestMapsThatNewDidntMake(t *testing.T) {
	for name, m := range nobodys() {
		for range 2 {
			if m.Len() != 0 || m.Count() != 0 || len(m.List()) != 0 {
				t.Errorf("%s: Len %d, Count %d, List %v", name, m.Len(), m.Count(), m.List())
			}
			for _, i := range append(beyond(0), 5, 63, 64, 65) {
				if m.Set(i, true) || m.Set(i, false) || m.Has(i) {
					t.Errorf("%s: place %d is there", name, i)
				}
				if m.First(i) != -1 || len(m.Least(i)) != 0 {
					t.Errorf("%s: First(%d) = %d, Least %v", name, i, m.First(i), m.Least(i))
				}
				for _, many := range beyond(0) {
					if got := m.Run(i, many); got != -1 {
						t.Errorf("%s: Run(%d, %d) = %d", name, i, many, got)
					}
				}
			}
			if m.Copy() != nil {
				t.Errorf("%s: there is a copy", name)
			}
		}
		if m != nil && !reflect.DeepEqual(m, &bitmap.Map{}) {
			t.Errorf("%s: it was changed", name)
		}
	}
}

func TestCopy(t *testing.T) {
	for _, n := range sizes() {
		for _, x := range patterns() {
			p := x.of(n)
			m := of(t, p)
			c := m.Copy()
			if c == nil || c == m {
				t.Fatalf("%s of %d: no copy of its own", x.name, n)
			}
			name := fmt.Sprint(x.name, " of ", n)
			holds(t, name+", copied", c, p)
			other := slices.Clone(p)
			for i := range p { // the first is changed, the copy isn't
				m.Set(i, !p[i])
				other[i] = !p[i]
			}
			holds(t, name+", the first changed", m, other)
			holds(t, name+", a copy of what it was", c, p)
			second := m.Copy()
			for i := range p { // a copy is changed, the first isn't
				second.Set(i, i%2 == 0)
			}
			holds(t, name+", its copy changed", m, other)
			holds(t, name+", another copy changed", c, p)
		}
	}
}

func TestCopyLooksAlike(t *testing.T) {
	for _, n := range []int{0, 1, 5, 63, 64, 65, 70} {
		for _, x := range patterns()[:12] {
			p := x.of(n)
			looked(t, fmt.Sprint("a copy of ", x.name, " of ", n), of(t, p).Copy(), p)
		}
	}
}

func TestCopyOfNoPlaces(t *testing.T) {
	m := made(t, 0)
	for range 3 {
		c := m.Copy()
		if c == nil || c == m {
			t.Fatal("no copy of its own of a map of no places")
		}
		holds(t, "of no places", c, nil)
		looked(t, "of no places", c, nil)
		m = c
	}
}

func TestMapsKnowNothingOfOneAnother(t *testing.T) {
	for _, n := range []int{1, 5, 64, 65} {
		a, b := made(t, n), made(t, n)
		for i := range n {
			a.Set(i, true)
		}
		holds(t, "another one", b, make(plain, n))
		holds(t, "a third one", made(t, n), make(plain, n))
	}
}

// P12.4

func TestWhatLeastAnswersIsTaken(t *testing.T) {
	for _, n := range sizes() {
		for _, x := range patterns() {
			for many := range n + 2 {
				p := x.of(n)
				m := of(t, p)
				count := m.Count()
				least := m.Least(many)
				if m.Count() != count {
					t.Errorf("%s of %d: Least(%d) took places", x.name, n, many)
				}
				if len(least) != 0 && len(least) != many {
					t.Errorf("%s of %d: Least(%d) = %v", x.name, n, many, least)
				}
				for _, i := range least {
					if m.Has(i) || !m.Set(i, true) {
						t.Errorf("%s of %d: Least(%d) has %d, which is taken", x.name, n, many, i)
					}
					p.set(i, true)
				}
				if m.Count() != count+len(least) {
					t.Errorf("%s of %d: Count = %d behind %d and Least(%d)", x.name, n, m.Count(), count, many)
				}
				holds(t, fmt.Sprintf("%s of %d, Least(%d) taken", x.name, n, many), m, p)
			}
		}
	}
}

// R1

func TestNoCallPanics(t *testing.T) {
	all := nobodys()
	for _, n := range []int{0, 1, 64, 65, 65536} {
		all[fmt.Sprint("of ", n)] = bitmap.New(n)
	}
	for name, m := range all {
		t.Run(name, func(t *testing.T) {
			at := append(beyond(m.Len()), beyond(0)...)
			at = append(at, m.Len()-1, m.Len()/2)
			for _, i := range at {
				for _, on := range []bool{true, false, true} {
					m.Set(i, on)
					m.Has(i)
				}
				m.First(i)
				m.Least(i)
				for _, many := range at {
					m.Run(i, many)
				}
				m.Len()
				m.Count()
				m.List()
				m.Copy()
			}
		})
	}
}

// R3

// spoil changes a list, and what is behind it.
func spoil(l []int) {
	longer := append(l, -7, -8, -9)
	for i := range longer {
		longer[i] = -1 - i
	}
	for i := range l {
		l[i] = 77
	}
}

func TestAnswersAreTheCallers(t *testing.T) {
	for _, n := range []int{1, 5, 64, 65, 129} {
		for _, x := range patterns() {
			p := x.of(n)
			m := of(t, p)
			free := len(p.those(false))
			list, least := m.List(), m.Least(free)
			other, next := m.List(), m.Least(free)
			spoil(list)
			spoil(least)
			name := fmt.Sprint(x.name, " of ", n)
			if !same(other, p.those(true)) || !same(next, p.least(free)) {
				t.Errorf("%s: %v and %v, behind changes of other answers", name, other, next)
			}
			holds(t, name+", with spoilt answers", m, p)
			looked(t, name+", with spoilt answers", m, p)
		}
	}
}

func TestLaterCallsChangeNoAnswer(t *testing.T) {
	for _, n := range []int{1, 5, 64, 65, 129} {
		for _, x := range patterns() {
			p := x.of(n)
			m := of(t, p)
			free := len(p.those(false))
			list, least := m.List(), m.Least(free)
			for i := range p {
				m.Set(i, !p[i])
				spoil(m.List())
				spoil(m.Least(1))
				m.First(0)
				m.Run(0, 2)
			}
			if !same(list, p.those(true)) || !same(least, p.least(free)) {
				t.Errorf("%s of %d: %v and %v, behind later calls", x.name, n, list, least)
			}
		}
	}
}

func TestSameAnswers(t *testing.T) {
	for _, x := range patterns() {
		m := of(t, x.of(100))
		for k := range 102 {
			if m.First(k) != m.First(k) || m.Run(k, 3) != m.Run(k, 3) || !same(m.Least(k), m.Least(k)) || !same(m.List(), m.List()) {
				t.Errorf("%s: another answer to the same call, of %d", x.name, k)
			}
		}
	}
}
