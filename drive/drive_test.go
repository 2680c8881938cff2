package drive_test

import (
	"bytes"
	"fmt"
	"maps"
	"math"
	"reflect"
	"slices"
	"testing"

	"ciborium/api"
	"ciborium/drive"
)

// noughts are the bytes of a sector that nobody wrote.
func noughts() []byte { return make([]byte, 64) }

// text answers 64 bytes, each unlike those of another seed at its place, so that a sector that is put together of two is seen.
func text(seed int) []byte {
	b := make([]byte, 64)
	for i := range b {
		b[i] = byte(seed + 31*i)
	}
	return b
}

// made answers a drive that there must be.
func made(t *testing.T, sectors int) *drive.Drive {
	t.Helper()
	d := drive.New(sectors)
	if d == nil {
		t.Fatalf("no drive of %d sectors", sectors)
	}
	return d
}

// writes writes what must be taken.
func writes(t *testing.T, d *drive.Drive, at int, b []byte) {
	t.Helper()
	if e := d.Write(at, b); e != api.OK {
		t.Fatalf("Write %d of %d bytes = %d", at, len(b), e)
	}
}

// flushes flushes what must be flushed.
func flushes(t *testing.T, d *drive.Drive) {
	t.Helper()
	if e := d.Flush(); e != api.OK {
		t.Fatalf("Flush = %d", e)
	}
}

// rots spoils what must be spoilt.
func rots(t *testing.T, d *drive.Drive, at, off int, mask uint32) {
	t.Helper()
	if e := d.Rot(at, off, mask); e != api.OK {
		t.Fatalf("Rot %d, %d, %x = %d", at, off, mask, e)
	}
}

// holds tells what goes wrong where a sector is to be read so, and to be stored so.
func holds(t *testing.T, name string, d *drive.Drive, at int, read, stored []byte) {
	t.Helper()
	if got, e := d.Read(at); e != api.OK || !bytes.Equal(got, read) {
		t.Errorf("%s: Read %d = %v, %d, want %v", name, at, got, e, read)
	}
	if got := d.Stored(at); !bytes.Equal(got, stored) {
		t.Errorf("%s: Stored %d = %v, want %v", name, at, got, stored)
	}
}

// waiting tells what goes wrong where so many writes are to wait.
func waiting(t *testing.T, name string, d *drive.Drive, many int) {
	t.Helper()
	if got := d.Waits(); got != many {
		t.Errorf("%s: Waits = %d, want %d", name, got, many)
	}
}

// put is a write.
type put struct {
	at int
	b  []byte
}

// plain is a drive as the chapter tells it: whatever is asked, all writes are gone through. One without sectors is one that nobody made.
type plain struct {
	stored [][]byte
	rotten []bool
	waits  []put
	dead   bool
}

func newPlain(sectors int) *plain {
	p := &plain{rotten: make([]bool, sectors)}
	for range sectors {
		p.stored = append(p.stored, noughts())
	}
	return p
}

func (p *plain) refuses() api.Errno {
	if len(p.stored) == 0 {
		return api.ErrNil
	}
	if p.dead {
		return api.ErrDead
	}
	return api.OK
}

func (p *plain) has(at int) bool { return at >= 0 && at < len(p.stored) }

func (p *plain) read(at int) ([]byte, api.Errno) {
	if e := p.refuses(); e != api.OK {
		return nil, e
	}
	if !p.has(at) {
		return nil, api.ErrArg
	}
	b := p.stored[at]
	for _, w := range p.waits {
		if w.at == at {
			b = w.b
		}
	}
	return b, api.OK
}

func (p *plain) write(at int, b []byte) api.Errno {
	if e := p.refuses(); e != api.OK {
		return e
	}
	if !p.has(at) || len(b) != 64 {
		return api.ErrArg
	}
	p.waits = append(p.waits, put{at, bytes.Clone(b)})
	return api.OK
}

func (p *plain) flush() api.Errno {
	if e := p.refuses(); e != api.OK {
		return e
	}
	keep := make([]bool, len(p.waits))
	for i := range keep {
		keep[i] = true
	}
	p.crash(keep)
	return api.OK
}

func (p *plain) crash(keep []bool) {
	for i, w := range p.waits {
		if i < len(keep) && keep[i] {
			p.stored[w.at], p.rotten[w.at] = w.b, false
		}
	}
	p.waits = nil
}

func (p *plain) fail() {
	*p = *newPlain(len(p.stored))
	p.dead = true
}

func (p *plain) replace() { *p = *newPlain(len(p.stored)) }

func (p *plain) rot(at, off int, mask uint32) api.Errno {
	if e := p.refuses(); e != api.OK {
		return e
	}
	if !p.has(at) || off < 0 || off > 60 || mask == 0 {
		return api.ErrArg
	}
	if p.rotten[at] {
		return api.ErrRotten
	}
	p.stored[at] = turned(p.stored[at], off, mask)
	p.rotten[at] = true
	return api.OK
}

func (p *plain) copy() *plain {
	return &plain{slices.Clone(p.stored), slices.Clone(p.rotten), slices.Clone(p.waits), p.dead}
}

// turned answers a sector with a mask's bytes taken into it by exclusive or, the lowest first.
func turned(b []byte, off int, mask uint32) []byte {
	b = bytes.Clone(b)
	b[off] ^= byte(mask & 255)
	b[off+1] ^= byte(mask / 256 & 255)
	b[off+2] ^= byte(mask / 65536 & 255)
	b[off+3] ^= byte(mask / 16777216)
	return b
}

// pair is a drive, and what it must be like.
type pair struct {
	d *drive.Drive
	p *plain
}

func newPair(t *testing.T, sectors int) pair {
	t.Helper()
	return pair{made(t, sectors), newPlain(sectors)}
}

// copy answers a pair of copies.
func (x pair) copy() pair { return pair{x.d.Copy(), x.p.copy()} }

// step is something that is done to both of a pair, with their answers.
type step struct {
	name string
	to   func(x pair) (got, want api.Errno)
}

func write(at int, b []byte) step {
	return step{fmt.Sprint("Write ", at, " of ", len(b), " bytes"), func(x pair) (got, want api.Errno) {
		return x.d.Write(at, b), x.p.write(at, b)
	}}
}

func flush() step {
	return step{"Flush", func(x pair) (got, want api.Errno) { return x.d.Flush(), x.p.flush() }}
}

func crash(keep ...bool) step {
	return step{fmt.Sprint("Crash ", keep), func(x pair) (got, want api.Errno) {
		x.d.Crash(keep)
		x.p.crash(keep)
		return api.OK, api.OK
	}}
}

func fail() step {
	return step{"Fail", func(x pair) (got, want api.Errno) {
		x.d.Fail()
		x.p.fail()
		return api.OK, api.OK
	}}
}

func replace() step {
	return step{"Replace", func(x pair) (got, want api.Errno) {
		x.d.Replace()
		x.p.replace()
		return api.OK, api.OK
	}}
}

func rot(at, off int, mask uint32) step {
	return step{fmt.Sprintf("Rot %d, %d, %x", at, off, mask), func(x pair) (got, want api.Errno) {
		return x.d.Rot(at, off, mask), x.p.rot(at, off, mask)
	}}
}

// does does a step to both, and tells whether both answer the same.
func (x pair) does(t *testing.T, name string, s step) bool {
	t.Helper()
	got, want := s.to(x)
	if got != want {
		t.Errorf("%s, %s = %d, want %d", name, s.name, got, want)
	}
	return got == want
}

// all does steps to both, and holds one against the other behind each of them.
func (x pair) all(t *testing.T, name string, steps ...step) {
	t.Helper()
	for i, s := range steps {
		if !x.does(t, name, s) || !x.alike(t, fmt.Sprint(name, ", behind step ", i, " (", s.name, ")")) {
			return
		}
	}
}

// seen tells what goes wrong with all that a drive tells, also of sectors that there aren't. It answers whether nothing did.
func (x pair) seen(t *testing.T, name string) bool {
	t.Helper()
	ok := true
	dead := x.p.refuses() != api.OK
	if x.d.Sectors() != len(x.p.stored) || x.d.Waits() != len(x.p.waits) || x.d.Dead() != dead {
		t.Errorf("%s: Sectors %d, Waits %d, Dead %v, want %d, %d, %v", name, x.d.Sectors(), x.d.Waits(), x.d.Dead(), len(x.p.stored), len(x.p.waits), dead)
		ok = false
	}
	for at := -1; at <= len(x.p.stored); at++ {
		var stored []byte
		rotten := false
		if !dead && x.p.has(at) {
			stored, rotten = x.p.stored[at], x.p.rotten[at]
		}
		read, refusal := x.p.read(at)
		got, e := x.d.Read(at)
		if e != refusal || !bytes.Equal(got, read) {
			t.Errorf("%s: Read %d = %v, %d, want %v, %d", name, at, got, e, read, refusal)
			ok = false
		}
		if is := x.d.Stored(at); !bytes.Equal(is, stored) || x.d.Rotten(at) != rotten {
			t.Errorf("%s: Stored %d = %v, Rotten %v, want %v, %v", name, at, is, x.d.Rotten(at), stored, rotten)
			ok = false
		}
	}
	return ok
}

// alike tells what goes wrong with all that a drive tells, and with each of the writes that wait, which are told by copies that keep one alone.
func (x pair) alike(t *testing.T, name string) bool {
	t.Helper()
	if !x.seen(t, name) {
		return false
	}
	for i := range x.p.waits {
		keep := make([]bool, i+1)
		keep[i] = true
		then := x.copy()
		if !then.does(t, name, crash(keep...)) || !then.seen(t, fmt.Sprint(name, ", if write ", i, " alone is kept")) {
			return false
		}
	}
	return true
}

// lists answers all lists of so many bools.
func lists(many int) [][]bool {
	var all [][]bool
	for bits := range 1 << many {
		list := make([]bool, many)
		for i := range list {
			list[i] = bits>>i&1 == 1
		}
		all = append(all, list)
	}
	return all
}

// The chapter's examples

func TestExamples(t *testing.T) {
	d := made(t, 3)
	writes(t, d, 1, text(1))
	d.Crash(nil)
	holds(t, "a write that nothing kept", d, 1, noughts(), noughts())
	writes(t, d, 1, text(2))
	flushes(t, d)
	d.Crash(nil)
	holds(t, "what was flushed", d, 1, text(2), text(2))
	writes(t, d, 1, text(3))
	d.Crash([]bool{false})
	holds(t, "a write that nothing kept, behind one that was flushed", d, 1, text(2), text(2))
	waiting(t, "behind all", d, 0)
}

// P9.1

func TestNew(t *testing.T) {
	for _, sectors := range []int{math.MinInt, -600, -1, 0, 601, 602, 1 << 20, math.MaxInt} {
		d := drive.New(sectors)
		if d != nil {
			t.Errorf("a drive of %d sectors", sectors)
		}
		if got := d.Sectors(); got != 0 {
			t.Errorf("Sectors of none = %d", got)
		}
	}
	for sectors := 1; sectors <= 600; sectors++ {
		if got := made(t, sectors).Sectors(); got != sectors {
			t.Errorf("Sectors of a drive of %d = %d", sectors, got)
		}
	}
}

func TestNewDriveHasNoughts(t *testing.T) {
	for _, sectors := range []int{1, 2, 3, 64, 599, 600} {
		x := newPair(t, sectors)
		for at := range sectors {
			holds(t, "a new drive", x.d, at, noughts(), noughts())
		}
		waiting(t, "a new drive", x.d, 0)
		if x.d.Dead() {
			t.Errorf("a new drive of %d sectors is dead", sectors)
		}
		x.alike(t, fmt.Sprint("a new drive of ", sectors))
	}
}

func TestReadOfWhatWaits(t *testing.T) {
	d := made(t, 4)
	writes(t, d, 1, text(1))
	holds(t, "one write", d, 1, text(1), noughts())
	writes(t, d, 2, text(2))
	holds(t, "behind one to another sector", d, 1, text(1), noughts())
	writes(t, d, 1, text(3))
	writes(t, d, 0, text(4))
	writes(t, d, 2, text(5))
	writes(t, d, 1, text(6))
	writes(t, d, 2, text(7))
	waiting(t, "seven writes", d, 7)
	for at, seed := range []int{4, 6, 7} {
		holds(t, "the last of several", d, at, text(seed), noughts())
	}
	holds(t, "a sector that nobody wrote", d, 3, noughts(), noughts())
}

func TestReadOfWhatWasFlushed(t *testing.T) {
	d := made(t, 3)
	writes(t, d, 1, text(1))
	writes(t, d, 2, text(2))
	writes(t, d, 1, text(3))
	flushes(t, d)
	waiting(t, "what was flushed", d, 0)
	holds(t, "the last of two that were flushed", d, 1, text(3), text(3))
	holds(t, "what was flushed", d, 2, text(2), text(2))
	holds(t, "beside what was flushed", d, 0, noughts(), noughts())
	writes(t, d, 1, text(4))
	holds(t, "a later write that waits", d, 1, text(4), text(3))
	holds(t, "another one's later write that waits", d, 2, text(2), text(2))
	writes(t, d, 1, text(3))
	holds(t, "a later write of what is stored", d, 1, text(3), text(3))
	waiting(t, "later writes", d, 2)
	flushes(t, d)
	holds(t, "the last of two, once more", d, 1, text(3), text(3))
}

func TestWriteOfStrangeLengths(t *testing.T) {
	long := append(text(1), text(2)...)
	for _, b := range [][]byte{nil, {}, long[:1], long[:32], long[:63], long[:65], long[:128], long[:0]} {
		x := newPair(t, 2)
		if e := x.d.Write(0, b); e != api.ErrArg {
			t.Errorf("Write of %d bytes = %d", len(b), e)
		}
		waiting(t, fmt.Sprint("behind a Write of ", len(b), " bytes"), x.d, 0)
		x.alike(t, "a Write that was refused")
		x.all(t, "behind writes", write(1, text(3)), write(1, b), write(0, b), write(0, text(4)), write(0, b), flush(), write(0, b))
	}
	x := newPair(t, 2)
	writes(t, x.d, 1, long[:64])
	waiting(t, "behind a Write of 64 bytes", x.d, 1)
	holds(t, "a Write of 64 bytes, of more", x.d, 1, text(1), noughts())
}

func TestStrangeSectors(t *testing.T) {
	for _, sectors := range []int{1, 2, 600} {
		for _, at := range []int{math.MinInt, -600, -1, sectors, sectors + 1, 601, math.MaxInt} {
			x := newPair(t, sectors)
			if e := x.d.Write(at, text(1)); e != api.ErrArg {
				t.Errorf("Write %d of %d sectors = %d", at, sectors, e)
			}
			waiting(t, fmt.Sprint("behind Write ", at), x.d, 0)
			if b, e := x.d.Read(at); e != api.ErrArg || len(b) != 0 {
				t.Errorf("Read %d of %d sectors = %v, %d", at, sectors, b, e)
			}
			if e := x.d.Rot(at, 0, 1); e != api.ErrArg {
				t.Errorf("Rot %d of %d sectors = %d", at, sectors, e)
			}
			if b := x.d.Stored(at); len(b) != 0 || x.d.Rotten(at) {
				t.Errorf("Stored %d of %d sectors = %v, Rotten %v", at, sectors, b, x.d.Rotten(at))
			}
			x.alike(t, "what was refused")
			x.all(t, "behind a write", write(0, text(2)), write(at, text(3)), rot(at, 0, 1), flush(), write(at, text(3)), rot(at, 0, 1))
		}
		for _, at := range []int{0, sectors / 2, sectors - 1} {
			newPair(t, sectors).all(t, "a sector that there is", write(at, text(1)), rot(at, 60, 1), flush())
		}
	}
}

func TestWaits(t *testing.T) {
	d := made(t, 2)
	for many := 1; many <= 300; many++ {
		writes(t, d, many%2, text(many))
		waiting(t, fmt.Sprint(many, " writes"), d, many)
	}
	d.Read(0)
	d.Stored(1)
	rots(t, d, 0, 0, 1)
	waiting(t, "behind looks and rot", d, 300)
	flushes(t, d)
	waiting(t, "flushed", d, 0)
	writes(t, d, 0, text(1))
	waiting(t, "once more", d, 1)
}

func TestFlush(t *testing.T) {
	newPair(t, 2).all(t, "of nothing", flush(), flush(), write(0, text(1)), flush(), flush())
	newPair(t, 2).all(t, "of one", write(1, text(1)), flush())
	newPair(t, 1).all(t, "of several to one sector", write(0, text(1)), write(0, text(2)), write(0, text(3)), flush())
	newPair(t, 3).all(t, "of several", write(2, text(1)), write(0, text(2)), write(2, text(3)), write(1, text(4)), write(0, text(5)), flush(), write(1, text(6)), flush())
}

func TestFlushOfMany(t *testing.T) {
	for _, sectors := range []int{1, 7, 600} {
		d := made(t, sectors)
		want := make([][]byte, sectors)
		for i := range 5000 {
			at := i * i % sectors
			want[at] = text(i)
			writes(t, d, at, want[at])
			if got, e := d.Read(at); e != api.OK || !bytes.Equal(got, want[at]) {
				t.Fatalf("Read %d behind %d writes = %v, %d", at, i+1, got, e)
			}
		}
		waiting(t, "many", d, 5000)
		flushes(t, d)
		waiting(t, "many that were flushed", d, 0)
		for at, b := range want {
			if b == nil {
				b = noughts()
			}
			holds(t, "many that were flushed", d, at, b, b)
		}
	}
}

// P9.2: Crash

// several are writes to the same sector and to others.
func several() []put {
	return []put{{0, text(11)}, {1, text(12)}, {0, text(13)}, {2, text(14)}, {0, text(15)}, {1, text(16)}}
}

// ahead are what is stored ahead of these. Nobody wrote the last one.
func ahead() [][]byte { return [][]byte{text(1), text(2), noughts(), text(4)} }

// severalWait answers a drive where several writes wait.
func severalWait(t *testing.T) pair {
	t.Helper()
	x := newPair(t, 4)
	x.all(t, "ahead", write(0, text(1)), write(1, text(2)), write(3, text(4)), flush())
	for _, w := range several() {
		x.all(t, "several", write(w.at, w.b))
	}
	return x
}

func TestCrashOfEachSubset(t *testing.T) {
	for many := range 9 {
		for _, keep := range lists(many) {
			name := fmt.Sprint("Crash ", keep)
			want := ahead()
			for i, w := range several() {
				if i < len(keep) && keep[i] {
					want[w.at] = w.b
				}
			}
			x := severalWait(t)
			x.all(t, "several wait", crash(keep...))
			waiting(t, name, x.d, 0)
			for at, b := range want {
				holds(t, name, x.d, at, b, b)
			}
			flushes(t, x.d)
			x.alike(t, name+", flushed, where nothing waits")
			x.d.Crash([]bool{true, true, true, true, true, true})
			x.alike(t, name+", crashed, where nothing waits")
			x.all(t, name, write(1, text(21)), crash(true))
		}
	}
}

func TestCrashOfNoList(t *testing.T) {
	roomy := []bool{true, true, true, true, true, true, true}
	for _, keep := range [][]bool{nil, {}, roomy[:0]} {
		x := severalWait(t)
		x.d.Crash(keep)
		waiting(t, "Crash of no list", x.d, 0)
		for at, b := range ahead() {
			holds(t, "Crash of no list", x.d, at, b, b)
		}
	}
}

func TestCrashOfAListWithRoomBehind(t *testing.T) {
	x := severalWait(t)
	keep := []bool{false, true, true, true, true, true, true}
	x.all(t, "several wait", crash(keep[:2]...))
	holds(t, "what the room behind the list says", x.d, 0, text(1), text(1))
	holds(t, "what the list says", x.d, 1, text(12), text(12))
}

func TestCrashLeavesFlushed(t *testing.T) {
	for _, keep := range lists(3) {
		name := fmt.Sprint("Crash ", keep)
		d := made(t, 4)
		writes(t, d, 0, text(1))
		writes(t, d, 1, text(2))
		writes(t, d, 2, text(3))
		flushes(t, d)
		writes(t, d, 1, text(4))
		writes(t, d, 3, text(5))
		writes(t, d, 1, text(6))
		d.Crash(keep)
		holds(t, name, d, 0, text(1), text(1))
		holds(t, name, d, 2, text(3), text(3))
		got, e := d.Read(1)
		want := [][]byte{text(2), text(4), text(6)}
		if e != api.OK || !slices.ContainsFunc(want, func(b []byte) bool { return bytes.Equal(b, got) }) {
			t.Errorf("%s: Read 1 = %v, %d", name, got, e)
		}
	}
}

func TestCrashBehindCrash(t *testing.T) {
	x := newPair(t, 2)
	x.all(t, "crashes", write(0, text(1)), crash(true), write(0, text(2)), write(1, text(3)), crash(false, true),
		write(1, text(4)), write(1, text(5)), crash(true), crash(true, true), write(0, text(6)), crash(), flush())
	holds(t, "behind all", x.d, 0, text(1), text(1))
	holds(t, "behind all", x.d, 1, text(4), text(4))
}

// P9.2: Fail, and Replace

// busy answers a drive of three sectors, with stored ones, rotten ones, and writes that wait.
func busy(t *testing.T) pair {
	t.Helper()
	x := newPair(t, 3)
	x.all(t, "busy", write(0, text(1)), write(1, text(2)), write(2, text(3)), flush(), rot(1, 8, 0x01020304), rot(2, 0, 1),
		write(0, text(4)), write(1, text(5)), write(0, text(6)))
	return x
}

func TestFail(t *testing.T) {
	d := busy(t).d
	d.Fail()
	if !d.Dead() || d.Sectors() != 3 {
		t.Errorf("Dead %v, Sectors %d of a drive of 3 that failed", d.Dead(), d.Sectors())
	}
	for range 2 {
		waiting(t, "dead", d, 0)
		for at := range 3 {
			if b, e := d.Read(at); e != api.ErrDead || len(b) != 0 {
				t.Errorf("Read %d of a dead drive = %v, %d", at, b, e)
			}
			if e := d.Write(at, text(7)); e != api.ErrDead {
				t.Errorf("Write %d of a dead drive = %d", at, e)
			}
			if e := d.Rot(at, 0, 1); e != api.ErrDead {
				t.Errorf("Rot %d of a dead drive = %d", at, e)
			}
			if b := d.Stored(at); len(b) != 0 || d.Rotten(at) {
				t.Errorf("Stored %d of a dead drive = %v, Rotten %v", at, b, d.Rotten(at))
			}
		}
		if e := d.Flush(); e != api.ErrDead {
			t.Errorf("Flush of a dead drive = %d", e)
		}
		d.Fail()
	}
}

func TestDeadDriveStaysDead(t *testing.T) {
	x := busy(t)
	x.all(t, "dead", fail(), crash(), crash(true, true, true), write(0, text(1)), flush(), fail(), rot(0, 0, 1), crash(true))
	if !x.d.Dead() {
		t.Error("a dead drive lives again")
	}
	newPair(t, 1).all(t, "a new one", fail(), write(0, text(1)), crash(true), replace())
}

func TestReplace(t *testing.T) {
	for _, first := range [][]step{nil, {fail()}, {fail(), fail()}, {fail(), crash(true, true)}, {replace()}, {flush()}, {crash(true)}} {
		x := busy(t)
		x.all(t, "busy", first...)
		x.d.Replace()
		waiting(t, "replaced", x.d, 0)
		if x.d.Dead() || x.d.Sectors() != 3 {
			t.Errorf("Dead %v, Sectors %d of a drive of 3 that was replaced", x.d.Dead(), x.d.Sectors())
		}
		for at := range 3 {
			holds(t, "replaced", x.d, at, noughts(), noughts())
			if x.d.Rotten(at) {
				t.Errorf("sector %d of a drive that was replaced is rotten", at)
			}
		}
		x.p.replace()
		x.all(t, "replaced", crash(true, true, true), flush(), rot(1, 60, 7), write(1, text(8)), write(2, text(9)), crash(true), write(2, text(10)), flush())
	}
}

// P9.2: Rot

// masks are those of each bit, of each byte alone, of all bits, and others.
func masks() []uint32 {
	all := []uint32{0xff, 0xff00, 0xff0000, 0xff000000, math.MaxUint32, 0x04030201, 0x80000001, 0x00ffff00, 0xa5a5a5a5}
	for bit := range 32 {
		all = append(all, 1<<bit)
	}
	return all
}

func TestRotOfNewDrive(t *testing.T) {
	d := made(t, 2)
	rots(t, d, 1, 0, 0x04030201)
	want := noughts()
	copy(want, []byte{1, 2, 3, 4})
	holds(t, "four bytes", d, 1, want, want)
	holds(t, "beside it", d, 0, noughts(), noughts())
	if !d.Rotten(1) || d.Rotten(0) {
		t.Errorf("Rotten 1 %v, Rotten 0 %v", d.Rotten(1), d.Rotten(0))
	}
}

func TestRotToNoughts(t *testing.T) {
	b := noughts()
	copy(b[7:], []byte{4, 3, 2, 1})
	x := newPair(t, 1)
	x.all(t, "four bytes", write(0, b), flush(), rot(0, 7, 0x01020304), rot(0, 7, 0x01020304))
	holds(t, "rot that leaves noughts", x.d, 0, noughts(), noughts())
	if !x.d.Rotten(0) {
		t.Error("a sector of noughts isn't rotten")
	}
	x.all(t, "noughts", write(0, noughts()), flush(), rot(0, 7, 1))
}

func TestRotOfEachPlace(t *testing.T) {
	for off := 0; off <= 60; off++ {
		for _, mask := range masks() {
			name := fmt.Sprintf("Rot 1, %d, %x", off, mask)
			d := made(t, 3)
			for at := range 3 {
				writes(t, d, at, text(at))
			}
			flushes(t, d)
			rots(t, d, 1, off, mask)
			want := turned(text(1), off, mask)
			holds(t, name, d, 1, want, want)
			for _, at := range []int{0, 2} {
				holds(t, name, d, at, text(at), text(at))
				if d.Rotten(at) {
					t.Errorf("%s: sector %d is rotten", name, at)
				}
			}
			if !d.Rotten(1) {
				t.Errorf("%s: the sector isn't rotten", name)
			}
			waiting(t, name, d, 0)
		}
	}
}

func TestRotOfStrangePlaces(t *testing.T) {
	for _, off := range []int{math.MinInt, -64, -4, -3, -1, 61, 62, 63, 64, 65, math.MaxInt - 3, math.MaxInt} {
		x := busy(t)
		for at := range 3 {
			if e := x.d.Rot(at, off, 1); e != api.ErrArg {
				t.Errorf("Rot %d, %d, 1 = %d", at, off, e)
			}
		}
		x.alike(t, fmt.Sprint("Rot at ", off))
	}
	x := busy(t)
	for off := -2; off <= 64; off++ {
		if e := x.d.Rot(0, off, 0); e != api.ErrArg {
			t.Errorf("Rot 0, %d, 0 = %d", off, e)
		}
	}
	x.alike(t, "Rot by nothing")
}

func TestSecondRot(t *testing.T) {
	x := newPair(t, 2)
	x.all(t, "first", write(0, text(1)), write(1, text(2)), flush(), rot(0, 3, 0x10203040))
	for _, off := range []int{0, 3, 7, 60} {
		for _, mask := range masks() {
			if e := x.d.Rot(0, off, mask); e != api.ErrRotten {
				t.Errorf("second Rot 0, %d, %x = %d", off, mask, e)
			}
		}
	}
	if e := x.d.Rot(0, 3, 0x10203040); e != api.ErrRotten {
		t.Errorf("the same Rot once more = %d", e)
	}
	x.alike(t, "second Rot")
	x.all(t, "another sector", rot(1, 3, 0x10203040), rot(1, 3, 1), crash(true), flush(), rot(0, 0, 1))
}

func TestRotLeavesWhatWaits(t *testing.T) {
	d := made(t, 2)
	writes(t, d, 0, text(1))
	flushes(t, d)
	writes(t, d, 0, text(2))
	rots(t, d, 0, 5, 0xff)
	holds(t, "rot below a write", d, 0, text(2), turned(text(1), 5, 0xff))
	if !d.Rotten(0) {
		t.Error("the sector isn't rotten while a write to it waits")
	}
	writes(t, d, 0, text(3))
	holds(t, "and a further one", d, 0, text(3), turned(text(1), 5, 0xff))
	waiting(t, "rot", d, 2)
	d.Crash(nil)
	holds(t, "nothing kept", d, 0, turned(text(1), 5, 0xff), turned(text(1), 5, 0xff))
	if !d.Rotten(0) {
		t.Error("the sector isn't rotten though nothing was stored")
	}
}

func TestRottenUntilStored(t *testing.T) {
	x := newPair(t, 2)
	x.all(t, "rotten", write(0, text(1)), write(1, text(2)), flush(), rot(0, 0, 1), rot(1, 60, 0x80000000))
	states := []struct {
		name   string
		steps  []step
		rotten bool
	}{
		{"a write that waits", []step{write(0, text(3))}, true},
		{"a write that is flushed", []step{write(0, text(3)), flush()}, false},
		{"a write of what was there", []step{write(0, text(1)), flush()}, false},
		{"a write of what is there", []step{write(0, turned(text(1), 0, 1)), flush()}, false},
		{"a write that is kept", []step{write(0, text(3)), crash(true)}, false},
		{"a write that isn't kept", []step{write(0, text(3)), crash(false, true)}, true},
		{"the first is kept", []step{write(0, text(3)), write(0, text(4)), crash(true, false)}, false},
		{"the second is kept", []step{write(0, text(3)), write(0, text(4)), crash(false, true)}, false},
		{"neither is kept", []step{write(0, text(3)), write(0, text(4)), crash()}, true},
		{"one to another sector is kept", []step{write(0, text(3)), write(1, text(4)), crash(false, true)}, true},
		{"one to another sector is flushed", []step{write(1, text(3)), flush()}, true},
		{"nothing is flushed", []step{flush()}, true},
		{"nothing is crashed", []step{crash(true)}, true},
		{"a write is refused", []step{write(0, nil), flush()}, true},
	}
	for _, state := range states {
		then := x.copy()
		then.all(t, state.name, state.steps...)
		if got := then.d.Rotten(0); got != state.rotten {
			t.Errorf("%s: Rotten = %v", state.name, got)
		}
		want := api.OK
		if state.rotten {
			want = api.ErrRotten
		}
		if e := then.d.Rot(0, 30, 9); e != want {
			t.Errorf("%s: Rot once more = %d, want %d", state.name, e, want)
		}
	}
}

// R2: the first error

func TestFirstError(t *testing.T) {
	dead := busy(t).d
	dead.Fail()
	if b, e := dead.Read(-1); e != api.ErrDead || len(b) != 0 {
		t.Errorf("Read of a dead drive, and of no sector = %v, %d", b, e)
	}
	for _, at := range []int{-1, 0, 3} {
		for _, b := range [][]byte{nil, text(1)[:63], text(1)} {
			if e := dead.Write(at, b); e != api.ErrDead {
				t.Errorf("Write %d of %d bytes to a dead drive = %d", at, len(b), e)
			}
		}
		for _, off := range []int{-1, 0, 61} {
			for _, mask := range []uint32{0, 1} {
				if e := dead.Rot(at, off, mask); e != api.ErrDead {
					t.Errorf("Rot %d, %d, %d of a dead drive = %d", at, off, mask, e)
				}
			}
		}
	}
	x := newPair(t, 2)
	x.all(t, "rotten", rot(0, 0, 1))
	for _, r := range []step{rot(0, -1, 1), rot(0, 61, 1), rot(0, 0, 0), rot(2, 0, 1)} {
		got, _ := r.to(x)
		if got != api.ErrArg {
			t.Errorf("%s of a rotten sector = %d", r.name, got)
		}
	}
	x.alike(t, "what was refused")
}

// P9.3

// nobodys tells what goes wrong with the answers of a drive that nobody made, at whatever arguments.
func nobodys(t *testing.T, name string, d *drive.Drive) {
	t.Helper()
	if d.Sectors() != 0 || d.Waits() != 0 || !d.Dead() {
		t.Errorf("%s: Sectors %d, Waits %d, Dead %v", name, d.Sectors(), d.Waits(), d.Dead())
	}
	if e := d.Flush(); e != api.ErrNil {
		t.Errorf("%s: Flush = %d", name, e)
	}
	for _, at := range []int{math.MinInt, -1, 0, 1, 600, math.MaxInt} {
		if b, e := d.Read(at); e != api.ErrNil || len(b) != 0 {
			t.Errorf("%s: Read %d = %v, %d", name, at, b, e)
		}
		for _, b := range [][]byte{nil, text(1), text(1)[:63]} {
			if e := d.Write(at, b); e != api.ErrNil {
				t.Errorf("%s: Write %d of %d bytes = %d", name, at, len(b), e)
			}
		}
		for _, off := range []int{-1, 0, 60, 61} {
			if a, b := d.Rot(at, off, 0), d.Rot(at, off, 5); a != api.ErrNil || b != api.ErrNil {
				t.Errorf("%s: Rot %d, %d = %d, %d", name, at, off, a, b)
			}
		}
		if b := d.Stored(at); len(b) != 0 || d.Rotten(at) {
			t.Errorf("%s: Stored %d = %v, Rotten %v", name, at, b, d.Rotten(at))
		}
	}
}

func TestNobodysDrive(t *testing.T) {
	zero := &drive.Drive{}
	for name, d := range map[string]*drive.Drive{"nil": nil, "zero": zero, "a copy of nil": (*drive.Drive)(nil).Copy(), "a copy of a zero one": zero.Copy(), "of no sectors": drive.New(0)} {
		nobodys(t, name, d)
		for _, keep := range [][]bool{nil, {true}, {true, true}} {
			d.Crash(keep)
			nobodys(t, name+", behind Crash", d)
		}
		d.Fail()
		nobodys(t, name+", behind Fail", d)
		d.Replace()
		nobodys(t, name+", behind Replace", d)
		d.Crash([]bool{true})
		nobodys(t, name+", behind all", d)
		nobodys(t, name+", copied", d.Copy())
	}
	if !reflect.DeepEqual(zero, &drive.Drive{}) {
		t.Error("a drive that nobody made was changed")
	}
	if zero.Copy() == zero || (*drive.Drive)(nil).Copy() != nil {
		t.Error("a copy of a zero drive is that drive, or one of nil isn't nil")
	}
}

// states are steps to drives of three sectors that are unlike one another.
func states() map[string][]step {
	return map[string][]step{
		"new":         nil,
		"stored":      {write(0, text(1)), write(1, text(2)), flush()},
		"waiting":     {write(0, text(1)), flush(), write(0, text(2)), write(1, text(3)), write(0, text(4)), write(2, text(5))},
		"rotten":      {write(0, text(1)), write(1, text(2)), flush(), rot(0, 0, 1), rot(2, 60, math.MaxUint32)},
		"both":        {write(0, text(1)), flush(), rot(0, 5, 0xff00), rot(1, 6, 7), write(0, text(2)), write(0, text(3)), write(1, text(4))},
		"crashed":     {write(0, text(1)), write(1, text(2)), crash(false, true)},
		"dead":        {write(0, text(1)), flush(), write(1, text(2)), fail()},
		"replaced":    {write(0, text(1)), flush(), write(1, text(2)), fail(), replace()},
		"not flushed": {rot(1, 1, 1), write(1, text(2))},
	}
}

// further are steps that change drives.
func further() map[string][]step {
	return map[string][]step{
		"writes":   {write(0, text(31)), write(2, text(32)), write(0, text(33))},
		"flush":    {flush()},
		"crash":    {crash(true, false, true)},
		"no crash": {crash()},
		"fail":     {fail()},
		"replace":  {replace()},
		"rot":      {rot(0, 10, 0x0a0b0c0d), rot(1, 11, 1), rot(2, 12, 2)},
		"many":     {write(1, text(34)), rot(1, 3, 3), flush(), rot(1, 4, 4), write(1, text(35)), write(1, text(36)), crash(true)},
	}
}

func TestCopy(t *testing.T) {
	for state, steps := range states() {
		for done, more := range further() {
			x := newPair(t, 3)
			x.all(t, state, steps...)
			c := x.copy()
			name := fmt.Sprint(state, ", ", done)
			c.alike(t, name+": the copy")
			x.all(t, name+": the first", more...)
			c.alike(t, name+": the copy, behind what was done to the first")
			x.alike(t, name+": the first, behind that")
			c.all(t, name+": the copy", write(2, text(41)), rot(2, 9, 9), write(1, text(42)))
			x.alike(t, name+": the first, behind what was done to the copy")
			c.all(t, name+": the copy", more...)
			c.all(t, name+": the copy", flush(), fail())
			x.alike(t, name+": the first, behind all")
			x.all(t, name+": the first", write(1, text(43)), flush(), replace())
			c.alike(t, name+": the copy, behind all")
		}
	}
}

func TestCopiesWriteBesideOneAnother(t *testing.T) {
	for many := range 40 { // of whatever room the lists have behind their ends
		x := newPair(t, 2)
		for i := range many {
			x.does(t, "ahead", write(i%2, text(i)))
		}
		a, b := x.copy(), x.copy()
		x.does(t, "the first", write(0, text(101)))
		a.does(t, "a copy", write(0, text(102)))
		b.does(t, "another copy", write(0, text(103)))
		holds(t, "the first", x.d, 0, text(101), noughts())
		holds(t, "a copy", a.d, 0, text(102), noughts())
		holds(t, "another copy", b.d, 0, text(103), noughts())
		for _, one := range []pair{x, a, b, a.copy().copy()} {
			one.does(t, "one", flush())
			one.seen(t, fmt.Sprint("behind ", many, " writes"))
		}
	}
}

// P9.4, and all of it: each sequence of a few steps

func TestEachSequence(t *testing.T) {
	alphabet := []step{
		write(0, text(1)), write(0, text(2)), write(1, text(3)), flush(), crash(), crash(true), crash(false, true), crash(true, false, true),
		fail(), replace(), rot(0, 0, 0x01020304), rot(1, 60, 1),
	}
	var onward func(x pair, name string, left int)
	onward = func(x pair, name string, left int) {
		if left == 0 || t.Failed() {
			return
		}
		for _, s := range alphabet {
			then := x.copy()
			behind := name + ", " + s.name
			then.does(t, name, s)
			then.alike(t, behind)
			onward(then, behind, left-1)
		}
	}
	onward(newPair(t, 2), "a new drive", 4)
}

// dice are numbers that are the same ones each time.
type dice struct{ now uint64 }

// below answers one of the numbers below n.
func (r *dice) below(n int) int {
	r.now = r.now*6364136223846793005 + 1442695040888963407
	return int(r.now>>33) % n
}

// list answers a list of at most so many bools.
func (r *dice) list(most int) []bool {
	all := make([]bool, r.below(most+1))
	for i := range all {
		all[i] = r.below(2) == 1
	}
	return all
}

// step answers a step, to a drive of so many sectors or beyond it.
func (r *dice) step(sectors, waits int) step {
	at := r.below(sectors+2) - 1
	switch r.below(20) {
	case 0, 1:
		return flush()
	case 2, 3:
		return crash(r.list(waits + 3)...)
	case 4:
		if r.below(4) == 0 {
			return fail()
		}
	case 5:
		if r.below(3) == 0 {
			return replace()
		}
	case 6, 7, 8:
		return rot(at, r.below(64)-1, uint32(r.below(1<<30))*uint32(r.below(5)))
	case 9:
		return write(at, make([]byte, r.below(130)))
	}
	return write(at, text(r.below(256)))
}

func TestLongSequences(t *testing.T) {
	for seed := range uint64(60) {
		r := &dice{seed}
		sectors := 1 + r.below(9)
		x := newPair(t, sectors)
		var left []pair
		for i := range 300 {
			s := r.step(sectors, len(x.p.waits))
			name := fmt.Sprint("seed ", seed, ", step ", i)
			if !x.does(t, name, s) || !x.seen(t, name+", behind "+s.name) {
				return
			}
			if i%50 == 49 {
				left = append(left, x.copy())
			}
		}
		for i, c := range left {
			c.alike(t, fmt.Sprint("seed ", seed, ", the copy ", i, " that was left behind"))
		}
	}
}

func TestStrangeArgumentsInEachState(t *testing.T) {
	for state, steps := range states() {
		x := newPair(t, 3)
		x.all(t, state, steps...)
		for _, at := range []int{math.MinInt, -1, 3, 4, 600, math.MaxInt} {
			for _, off := range []int{math.MinInt, -1, 0, 60, 61, math.MaxInt} {
				for _, mask := range []uint32{0, 1, math.MaxUint32} {
					x.does(t, state, rot(at, off, mask))
				}
			}
			for _, many := range []int{0, 63, 64, 65, 1000} {
				x.does(t, state, write(at, make([]byte, many)))
			}
		}
		x.alike(t, state+", behind all")
	}
}

// R3: memory

func TestWhatIsWrittenIsNotKept(t *testing.T) {
	d := made(t, 2)
	b := append(text(1), text(2)...)
	writes(t, d, 0, b[:64])
	clear(b)
	holds(t, "cleared behind Write", d, 0, text(1), noughts())
	copy(b, text(3))
	writes(t, d, 1, b[:64])
	flushes(t, d)
	clear(b)
	holds(t, "cleared behind Flush", d, 0, text(1), text(1))
	holds(t, "cleared behind Flush", d, 1, text(3), text(3))
}

func TestNothingHandedInIsChanged(t *testing.T) {
	d := made(t, 2)
	b := append(text(1), text(2)...)
	was := bytes.Clone(b)
	keep := []bool{true, false, true, true}
	writes(t, d, 0, b[:64])
	d.Write(1, b[:63])
	writes(t, d, 1, b[64:])
	rots(t, d, 0, 0, 1)
	d.Crash(keep[:2])
	rots(t, d, 0, 0, math.MaxUint32)
	if !bytes.Equal(b, was) || !slices.Equal(keep, []bool{true, false, true, true}) {
		t.Errorf("what was handed in was changed: %v, %v", b, keep)
	}
	keep[1] = true
	holds(t, "a list that is changed behind Crash", d, 1, noughts(), noughts())
}

func TestAnswersAreNewMemory(t *testing.T) {
	d := made(t, 2)
	writes(t, d, 0, text(1))
	writes(t, d, 1, text(2))
	flushes(t, d)
	writes(t, d, 0, text(3))
	writes(t, d, 0, text(4))
	for range 2 {
		for at, read := range [][]byte{text(4), text(2)} {
			stored := [][]byte{text(1), text(2)}[at]
			a, _ := d.Read(at)
			b, _ := d.Read(at)
			c, s := d.Stored(at), d.Stored(at)
			for _, answer := range [][]byte{a, c} {
				clear(answer)
				clear(append(answer, 9, 9, 9))
				clear(answer[:cap(answer)])
			}
			holds(t, "answers that are changed", d, at, read, stored)
			if !bytes.Equal(b, read) || !bytes.Equal(s, stored) {
				t.Errorf("two answers share memory: %v, %v", b, s)
			}
		}
	}
	was, _ := d.Read(0)
	below := d.Stored(0)
	rots(t, d, 0, 0, math.MaxUint32)
	writes(t, d, 0, text(5))
	flushes(t, d)
	d.Fail()
	if !bytes.Equal(was, text(4)) || !bytes.Equal(below, text(1)) {
		t.Errorf("answers go with the drive: %v, %v", was, below)
	}
	d.Replace()
	d.Crash(nil)
	d.Copy().Write(0, text(6))
	if !bytes.Equal(was, text(4)) || !bytes.Equal(below, text(1)) {
		t.Errorf("answers go with the drive that was replaced: %v, %v", was, below)
	}
}

// R4

func TestDrivesKnowNothingOfOneAnother(t *testing.T) {
	a, b := newPair(t, 3), newPair(t, 3)
	for _, done := range slices.Sorted(maps.Keys(further())) {
		a.all(t, "one, "+done, further()[done]...)
		b.alike(t, "the other")
	}
	b.all(t, "the other", write(0, text(1)), flush(), rot(0, 0, 1), write(2, text(2)))
	a.alike(t, "one")
	a.all(t, "one", replace(), fail())
	b.alike(t, "the other")
}
