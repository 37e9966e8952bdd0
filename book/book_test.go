package book

import (
	"maps"
	"math"
	"slices"
	"sync"
	"testing"

	"hedgerow/api"
)

const manyBit = 1 << 40

func entry(vid int, addr uint64, port, age int) api.Entry {
	return api.Entry{VID: vid, Addr: addr, Port: port, Age: age}
}

func with(e api.Entry, change func(*api.Entry)) api.Entry {
	change(&e)
	return e
}

// ordinary has some addresses on two ways, and one of them on both.
func ordinary() []api.Entry {
	return []api.Entry{entry(5, 10, 1, 40), entry(5, 20, 2, 0), entry(5, 30, 1, 299), entry(7, 10, 2, 3), entry(7, 15, 0, 300)}
}

// full is a book with as many entries as one may have.
func full() []api.Entry {
	var l []api.Entry
	for i := range 30 {
		l = append(l, entry(100+i/10, uint64(1000+10*(i%10)), i, 10*i))
	}
	return l
}

func goodBooks() map[string][]api.Entry {
	return map[string][]api.Entry{
		"nil":               nil,
		"empty":             {},
		"one":               {entry(5, 10, 1, 4)},
		"least":             {entry(1, 0, 0, 0)},
		"greatest":          {entry(4094, 1<<48-1, 30, 300)},
		"ends":              {entry(1, 0, 30, 300), entry(1, 1<<48-1, 0, 0), entry(4094, 0, 0, 300), entry(4094, 1<<48-1, 30, 0)},
		"address falls":     {entry(5, 10, 1, 4), entry(6, 9, 1, 4), entry(7, 0, 1, 4)},
		"one address":       {entry(5, 10, 1, 4), entry(6, 10, 1, 4), entry(7, 10, 1, 4)},
		"ports, ages fall":  {entry(5, 10, 30, 300), entry(5, 11, 20, 200), entry(6, 10, 0, 0)},
		"address of many":   {entry(5, 10, 1, 4), entry(5, manyBit, 1, 4), entry(5, manyBit|10, 1, 4)},
		"ordinary":          ordinary(),
		"as many as can be": full(),
	}
}

// key is what entries of a book are told apart by.
type key struct {
	vid  int
	addr uint64
}

type spot struct{ port, age int }

// notes are a book by other means: unordered, until it is written.
type notes map[key]spot

func notesOf(l []api.Entry) notes {
	m := notes{}
	for _, e := range l {
		m[key{e.VID, e.Addr}] = spot{e.Port, e.Age}
	}
	return m
}

// written puts each entry ahead of the first one that is not less.
func (m notes) written() []api.Entry {
	var l []api.Entry
	for k, s := range m {
		at := 0
		for at < len(l) && (l[at].VID < k.vid || l[at].VID == k.vid && l[at].Addr < k.addr) {
			at++
		}
		l = slices.Insert(l, at, entry(k.vid, k.addr, s.port, s.age))
	}
	return l
}

func (m notes) learn(vid int, addr uint64, port int) {
	if addr>>48 != 0 || addr>>40&1 == 1 || vid < 1 || vid > 4094 || port < 0 || port > 30 {
		return
	}
	if _, known := m[key{vid, addr}]; known || len(m) < 30 {
		m[key{vid, addr}] = spot{port, 0}
	}
}

func (m notes) old(later int) {
	for k, s := range m {
		if later < 0 || later > 300 || s.age+later > 300 {
			delete(m, k)
		} else {
			m[k] = spot{s.port, s.age + later}
		}
	}
}

func (m notes) flush(port int, ways []int) {
	maps.DeleteFunc(m, func(k key, s spot) bool { return s.port == port && slices.Index(ways, k.vid) >= 0 })
}

func knownLearn(l []api.Entry, vid int, addr uint64, port int) []api.Entry {
	m := notesOf(l)
	m.learn(vid, addr, port)
	return m.written()
}

func knownOld(l []api.Entry, later int) []api.Entry {
	m := notesOf(l)
	m.old(later)
	return m.written()
}

func knownFlush(l []api.Entry, port int, ways []int) []api.Entry {
	m := notesOf(l)
	m.flush(port, ways)
	return m.written()
}

// knownWrong is what H1 says, by numbers that are written out.
func knownWrong(l []api.Entry) api.Fault {
	if len(l) > 30 {
		return api.Fault{Err: api.ErrMany}
	}
	for i, e := range l {
		if e.VID < 1 || e.VID > 4094 || e.Addr>>48 != 0 || e.Port < 0 || e.Port > 30 || e.Age < 0 || e.Age > 300 {
			return api.Fault{Err: api.ErrRange, At: i}
		}
		if i > 0 && (e.VID < l[i-1].VID || e.VID == l[i-1].VID && e.Addr <= l[i-1].Addr) {
			return api.Fault{Err: api.ErrForm, At: i}
		}
	}
	return api.Fault{}
}

// pick is a row of numbers that hang on seed alone.
func pick(seed uint64) func(n int) int {
	return func(n int) int {
		seed = seed*6364136223846793005 + 1442695040888963407
		return int((seed >> 33) % uint64(n))
	}
}

func wantWrong(t *testing.T, what string, l []api.Entry, err api.Errno, at int) {
	t.Helper()
	if got, want := Wrong(l), (api.Fault{Err: err, At: at}); got != want {
		t.Errorf("%s: %v: %v comes, not %v", what, l, got, want)
	}
}

// wantBook also asks that what came is a book.
func wantBook(t *testing.T, what string, got, want []api.Entry) {
	t.Helper()
	if !slices.Equal(got, want) {
		t.Errorf("%s: %v comes, not %v", what, got, want)
	}
	if f := Wrong(got); f != (api.Fault{}) {
		t.Errorf("%s: %v comes, which is no book: %v", what, got, f)
	}
}

func wantLook(t *testing.T, what string, l []api.Entry, vid int, addr uint64, port int, known bool) {
	t.Helper()
	if gotPort, got := Look(l, vid, addr); gotPort != port || got != known {
		t.Errorf("%s: %d on %d in %v: %d, %v comes, not %d, %v", what, addr, vid, l, gotPort, got, port, known)
	}
}

// H1: what is a book.
func TestWrongOfGoodBooks(t *testing.T) {
	for what, l := range goodBooks() {
		wantWrong(t, what, l, api.OK, 0)
	}
	for n := range 31 {
		wantWrong(t, "a part", full()[:n], api.OK, 0)
	}
}

// H1: more than MaxEntries, at 0, ahead of all else.
func TestWrongMany(t *testing.T) {
	rising := func(n int) []api.Entry {
		l := make([]api.Entry, n)
		for i := range l {
			l[i] = entry(5, uint64(i), 1, 1)
		}
		return l
	}
	wantWrong(t, "30", rising(30), api.OK, 0)
	for _, n := range []int{31, 32, 60, 5000} {
		wantWrong(t, "too many", rising(n), api.ErrMany, 0)
		wantWrong(t, "too many, out of range", make([]api.Entry, n), api.ErrMany, 0)
		wantWrong(t, "too many, all the same", slices.Repeat([]api.Entry{entry(5, 1, 1, 1)}, n), api.ErrMany, 0)
	}
	wantWrong(t, "30, out of range", make([]api.Entry, 30), api.ErrRange, 0)
}

// oddEntry is how an entry goes out of a range.
type oddEntry struct {
	what   string
	change func(*api.Entry)
}

func oddEntries() []oddEntry {
	var l []oddEntry
	for _, n := range []int{math.MinInt, -1, 0, 4095, 4096, math.MaxInt} {
		l = append(l, oddEntry{"VID", func(e *api.Entry) { e.VID = n }})
	}
	for _, n := range []uint64{1 << 48, 1<<48 + 1, 1 << 49, 1 << 63, math.MaxUint64} {
		l = append(l, oddEntry{"Addr", func(e *api.Entry) { e.Addr = n }})
	}
	for _, n := range []int{math.MinInt, -1, 31, 32, math.MaxInt} {
		l = append(l, oddEntry{"Port", func(e *api.Entry) { e.Port = n }})
	}
	for _, n := range []int{math.MinInt, -1, 301, 302, math.MaxInt} {
		l = append(l, oddEntry{"Age", func(e *api.Entry) { e.Age = n }})
	}
	return l
}

// H1: each number beside its range, at each place.
func TestWrongNumbers(t *testing.T) {
	for _, odd := range oddEntries() {
		for _, base := range [][]api.Entry{ordinary(), full()} {
			for i := range base {
				l := slices.Clone(base)
				odd.change(&l[i])
				wantWrong(t, odd.what, l, api.ErrRange, i)
			}
		}
	}
}

// H1: each number within its range, and nothing beside it, when it stands alone.
func TestWrongEachNumber(t *testing.T) {
	for n := -5; n <= 4100; n++ {
		for what, e := range map[string]api.Entry{"VID": entry(n, 10, 1, 4), "Port": entry(5, 10, n, 4), "Age": entry(5, 10, 1, n)} {
			l := []api.Entry{e}
			want := knownWrong(l)
			wantWrong(t, what, l, want.Err, want.At)
		}
	}
}

// H1: the one ahead must be less, by VID, then by Addr, and by nothing else.
func TestWrongOrder(t *testing.T) {
	for _, c := range []struct {
		what string
		a, b api.Entry
		err  api.Errno
	}{
		{"VID rises", entry(5, 10, 1, 4), entry(6, 10, 1, 4), api.OK},
		{"VID rises, Addr falls", entry(5, 10, 1, 4), entry(6, 9, 1, 4), api.OK},
		{"Addr rises", entry(5, 10, 1, 4), entry(5, 11, 1, 4), api.OK},
		{"port and age fall", entry(5, 10, 2, 5), entry(5, 11, 1, 4), api.OK},
		{"the same", entry(5, 10, 1, 4), entry(5, 10, 1, 4), api.ErrForm},
		{"the same at another port", entry(5, 10, 1, 4), entry(5, 10, 2, 4), api.ErrForm},
		{"the same, older", entry(5, 10, 1, 4), entry(5, 10, 1, 5), api.ErrForm},
		{"VID falls", entry(6, 10, 1, 4), entry(5, 10, 1, 4), api.ErrForm},
		{"VID falls, Addr rises", entry(6, 10, 1, 4), entry(5, 11, 1, 4), api.ErrForm},
		{"Addr falls", entry(5, 10, 1, 4), entry(5, 9, 1, 4), api.ErrForm},
		{"all else rises", entry(6, 10, 1, 4), entry(5, 99, 2, 5), api.ErrForm},
		{"far apart", entry(5, 0, 1, 4), entry(5, 1<<48-1, 1, 4), api.OK},
		{"far apart, falling", entry(5, 1<<48-1, 1, 4), entry(5, 0, 1, 4), api.ErrForm},
	} {
		at := 0
		if c.err != api.OK {
			at = 1
		}
		wantWrong(t, c.what, []api.Entry{c.a, c.b}, c.err, at)
	}
}

// H1: it is told where the order breaks, and first where it first breaks.
func TestWrongOrderAtEachPlace(t *testing.T) {
	for i := 1; i < 30; i++ {
		l := full()
		l[i] = l[i-1]
		wantWrong(t, "twice", l, api.ErrForm, i)
		l = full()
		l[i-1], l[i] = l[i], l[i-1]
		wantWrong(t, "changed about", l, api.ErrForm, i)
		l[29] = l[28]
		wantWrong(t, "twice more", l, api.ErrForm, i)
	}
}

// H1: entry by entry, and ErrRange ahead of ErrForm of one entry.
func TestWrongInOrder(t *testing.T) {
	good, less := entry(5, 10, 1, 4), entry(5, 9, 1, 4)
	for _, odd := range oddEntries() {
		bad, badLess := with(good, odd.change), with(less, odd.change)
		wantWrong(t, odd.what+", and not behind", []api.Entry{good, badLess}, api.ErrRange, 1)
		wantWrong(t, odd.what+", behind the order's break", []api.Entry{good, less, badLess}, api.ErrForm, 1)
		wantWrong(t, odd.what+", ahead of the order's break", []api.Entry{bad, good, less}, api.ErrRange, 0)
		wantWrong(t, odd.what+", twice", []api.Entry{bad, bad}, api.ErrRange, 0)
	}
}

// H1: lists of a few entries that are often wrong.
func TestWrongOfMany(t *testing.T) {
	next := pick(81)
	faults := map[api.Fault]bool{}
	for range 20000 {
		l := full()[:next(31)]
		for range next(3) {
			if len(l) == 0 {
				break
			}
			e := &l[next(len(l))]
			switch next(5) {
			case 0:
				e.VID = []int{0, 1, 101, 4094, 4095}[next(5)]
			case 1:
				e.Addr = []uint64{0, 1050, api.MaxAddr, api.MaxAddr + 1}[next(4)]
			case 2:
				e.Port = []int{-1, 0, 30, 31}[next(4)]
			case 3:
				e.Age = []int{-1, 0, 300, 301}[next(4)]
			case 4:
				l = append(l, l[next(len(l))])
			}
		}
		want := knownWrong(l)
		faults[want] = true
		wantWrong(t, "some", l, want.Err, want.At)
	}
	if len(faults) < 50 {
		t.Errorf("only %d faults were met", len(faults))
	}
}

// H2: a book, grown from nothing.
func TestLearnOneByOne(t *testing.T) {
	l := Learn(nil, 5, 20, 1)
	wantBook(t, "the first one", l, []api.Entry{entry(5, 20, 1, 0)})
	l = Learn(l, 5, 10, 2)
	wantBook(t, "ahead", l, []api.Entry{entry(5, 10, 2, 0), entry(5, 20, 1, 0)})
	l = Learn(l, 6, 15, 3)
	wantBook(t, "behind", l, []api.Entry{entry(5, 10, 2, 0), entry(5, 20, 1, 0), entry(6, 15, 3, 0)})
	l = Learn(l, 5, 15, 0)
	wantBook(t, "between", l, []api.Entry{entry(5, 10, 2, 0), entry(5, 15, 0, 0), entry(5, 20, 1, 0), entry(6, 15, 3, 0)})
	l = Learn(l, 5, 15, 30)
	wantBook(t, "again", l, []api.Entry{entry(5, 10, 2, 0), entry(5, 15, 30, 0), entry(5, 20, 1, 0), entry(6, 15, 3, 0)})
}

// H2: what is known keeps its place, and is of now; nothing else grows younger.
func TestLearnAgain(t *testing.T) {
	for _, base := range [][]api.Entry{ordinary(), full()} {
		for i, e := range base {
			for _, port := range []int{0, e.Port, 30} {
				want := slices.Clone(base)
				want[i].Port, want[i].Age = port, 0
				wantBook(t, "again", Learn(base, e.VID, e.Addr, port), want)
			}
		}
	}
}

// H2: what is new stands where a book has it, at each place.
func TestLearnNew(t *testing.T) {
	base := full()[:29]
	for i, e := range base {
		for _, addr := range []uint64{e.Addr - 1, e.Addr + 1} {
			at := i + int(addr+1-e.Addr)/2
			want := slices.Insert(slices.Clone(base), at, entry(e.VID, addr, 7, 0))
			wantBook(t, "new", Learn(base, e.VID, addr, 7), want)
		}
	}
	for _, vid := range []int{1, 99, 103, 4094} {
		wantBook(t, "another way", Learn(base, vid, 1010, 7), knownLearn(base, vid, 1010, 7))
	}
}

// H2: one address on two ways is two entries.
func TestLearnOnOtherWay(t *testing.T) {
	l := Learn(Learn(nil, 5, 10, 1), 6, 10, 2)
	wantBook(t, "two ways", l, []api.Entry{entry(5, 10, 1, 0), entry(6, 10, 2, 0)})
	wantLook(t, "one", l, 5, 10, 1, true)
	wantLook(t, "other", l, 6, 10, 2, true)
}

// H2: all that is within its range is learnt, at its ends too.
func TestLearnEnds(t *testing.T) {
	for _, vid := range []int{1, 2, 4093, 4094} {
		for _, addr := range []uint64{0, 1, 1<<40 - 1, 1 << 41, 1<<48 - 1 - manyBit} {
			for _, port := range []int{0, 1, 29, 30} {
				l := Learn(nil, vid, addr, port)
				wantBook(t, "alone", l, []api.Entry{entry(vid, addr, port, 0)})
				wantLook(t, "alone", l, vid, addr, port, true)
				wantBook(t, "among others", Learn(ordinary(), vid, addr, port), knownLearn(ordinary(), vid, addr, port))
			}
		}
	}
}

// H2: what is not learnt leaves the book as it was, ages too.
func TestLearnNothing(t *testing.T) {
	for what, base := range goodBooks() {
		for _, addr := range []uint64{manyBit, manyBit | 10, 1<<41 - 1, 1<<48 - 1, 1 << 48, 1<<48 + 10, 1 << 49, 1 << 63, math.MaxUint64} {
			wantBook(t, what+": address", Learn(base, 5, addr, 3), base)
		}
		for _, vid := range []int{math.MinInt, -1, 0, 4095, 4096, 4096 + 5, math.MaxInt} {
			wantBook(t, what+": way", Learn(base, vid, 10, 3), base)
		}
		for _, port := range []int{math.MinInt, -1, 31, 32, math.MaxInt} {
			wantBook(t, what+": port", Learn(base, 5, 10, port), base)
		}
	}
}

// H2: an address of many that a book has is found there, but not learnt again.
func TestLearnManyThatIsThere(t *testing.T) {
	base := []api.Entry{entry(5, manyBit|3, 2, 9)}
	wantBook(t, "of many", Learn(base, 5, manyBit|3, 4), base)
	wantLook(t, "of many", base, 5, manyBit|3, 2, true)
}

// H2: a full book takes nobody new, but those it has may move.
func TestLearnWhenFull(t *testing.T) {
	for _, e := range full() {
		wantBook(t, "new", Learn(full(), e.VID, e.Addr+1, 3), full())
		if got := Learn(full(), e.VID, e.Addr, 3); !slices.Contains(got, entry(e.VID, e.Addr, 3, 0)) || len(got) != 30 {
			t.Errorf("%v does not move to port 3: %v comes", e, got)
		}
	}
	wantBook(t, "least", Learn(full(), 1, 0, 3), full())
	wantBook(t, "greatest", Learn(full(), 4094, 1<<40-1, 3), full())
	wantBook(t, "the thirtieth", Learn(full()[:29], 4094, 5, 3), append(full()[:29], entry(4094, 5, 3, 0)))
	room := Flush(full(), 0, []int{100})
	wantBook(t, "room again", Learn(room, 1, 0, 3), knownLearn(room, 1, 0, 3))
}

// H2: each entry is found, and nothing beside it.
func TestLook(t *testing.T) {
	for what, l := range goodBooks() {
		m := notesOf(l)
		for _, e := range l {
			for _, k := range []key{{e.VID, e.Addr}, {e.VID, e.Addr + 1}, {e.VID, e.Addr - 1}, {e.VID + 1, e.Addr}, {e.VID - 1, e.Addr}, {e.VID, e.Addr + 1<<48}} {
				s, known := m[k]
				wantLook(t, what, l, k.vid, k.addr, s.port, known)
			}
		}
		for _, vid := range []int{math.MinInt, -1, 0, 2, 4095, math.MaxInt} {
			for _, addr := range []uint64{0, 10, api.MaxAddr, api.MaxAddr + 1, math.MaxUint64} {
				wantLook(t, what+": nobody", l, vid, addr, 0, false)
			}
		}
	}
	wantLook(t, "port 0", ordinary(), 7, 15, 0, true)
	wantLook(t, "nobody", ordinary(), 7, 20, 0, false)
}

// H2: who was seen is found, as long as that is not too long ago.
func TestLookWhoWasSeen(t *testing.T) {
	l := Learn(ordinary(), 6, 77, 9)
	for age := 0; age <= 300; age++ {
		wantLook(t, "seen", Old(l, age), 6, 77, 9, true)
	}
	wantLook(t, "forgotten", Old(l, 301), 6, 77, 0, false)
}

// H2: what is 300 old stays, what is 301 old is gone.
func TestOld(t *testing.T) {
	l := ordinary()
	for _, c := range []struct {
		later int
		want  []api.Entry
	}{
		{0, l},
		{1, []api.Entry{entry(5, 10, 1, 41), entry(5, 20, 2, 1), entry(5, 30, 1, 300), entry(7, 10, 2, 4)}},
		{2, []api.Entry{entry(5, 10, 1, 42), entry(5, 20, 2, 2), entry(7, 10, 2, 5)}},
		{260, []api.Entry{entry(5, 10, 1, 300), entry(5, 20, 2, 260), entry(7, 10, 2, 263)}},
		{261, []api.Entry{entry(5, 20, 2, 261), entry(7, 10, 2, 264)}},
		{297, []api.Entry{entry(5, 20, 2, 297), entry(7, 10, 2, 300)}},
		{298, []api.Entry{entry(5, 20, 2, 298)}},
		{300, []api.Entry{entry(5, 20, 2, 300)}},
		{301, nil},
	} {
		wantBook(t, "later", Old(l, c.later), c.want)
	}
}

// H2: all are gone, if it is later by too much, or by less than nothing; no sum wraps round.
func TestOldAllGone(t *testing.T) {
	for what, l := range goodBooks() {
		for _, later := range []int{math.MinInt, math.MinInt + 300, -301, -300, -1, 301, 302, math.MaxInt - 300, math.MaxInt - 299, math.MaxInt - 1, math.MaxInt} {
			wantBook(t, what, Old(l, later), nil)
		}
	}
}

// H2: each age, so much later.
func TestOldEachAge(t *testing.T) {
	for age := range 301 {
		l := []api.Entry{entry(5, 10, 1, age)}
		for later := range 303 {
			wantBook(t, "one", Old(l, later), knownOld(l, later))
		}
	}
}

// H2: without those that have both the port and one of the ways.
func TestFlush(t *testing.T) {
	l := ordinary()
	for _, c := range []struct {
		what string
		port int
		ways []int
		want []api.Entry
	}{
		{"one way", 1, []int{5}, []api.Entry{l[1], l[3], l[4]}},
		{"another way", 1, []int{7}, l},
		{"both ways", 2, []int{5, 7}, []api.Entry{l[0], l[2], l[4]}},
		{"falling ways", 2, []int{7, 6, 5}, []api.Entry{l[0], l[2], l[4]}},
		{"ways twice", 2, []int{7, 7, 5, 5, 7}, []api.Entry{l[0], l[2], l[4]}},
		{"port 0", 0, []int{5, 7}, l[:4]},
		{"a port that nobody has", 3, []int{5, 7}, l},
		{"no way", 1, nil, l},
		{"ways that nobody has", 1, []int{1, 4, 6, 8, 4094}, l},
		{"ways that are none", 1, []int{math.MinInt, -5, 0, 4095, 5 + 4096, math.MaxInt}, l},
		{"such ones, and one", 1, []int{math.MinInt, 0, 4095, 5, math.MaxInt}, []api.Entry{l[1], l[3], l[4]}},
		{"ports that are none", -1, []int{5, 7}, l},
		{"ports that are none", 31, []int{5, 7}, l},
		{"ports that are none", math.MinInt, []int{5, 7}, l},
		{"ports that are none", math.MaxInt, []int{5, 7}, l},
	} {
		wantBook(t, c.what, Flush(l, c.port, c.ways), c.want)
	}
	wantBook(t, "all", Flush([]api.Entry{entry(5, 10, 1, 4), entry(5, 20, 1, 9)}, 1, []int{5}), nil)
}

// H1 and H2: whatever is done with a book, it is one, and what the notes tell.
func TestBooksOfMany(t *testing.T) {
	next := pick(82)
	gone, refused, moved := 0, 0, 0
	for range 300 {
		var l []api.Entry
		m := notes{}
		for range 100 {
			was := len(m)
			switch next(12) {
			case 0:
				later := []int{0, 1, 30, 100, 299, 300, 301, -1}[next(8)]
				l = Old(l, later)
				m.old(later)
				gone += was - len(m)
			case 1:
				port, ways := next(4), []int{4 + next(5), 4 + next(5)}[:next(3)]
				l = Flush(l, port, ways)
				m.flush(port, ways)
				gone += was - len(m)
			default:
				vid, addr, port := 4+next(4), uint64(next(20)), next(4)
				if _, known := m[key{vid, addr}]; known {
					moved++
				} else if was == 30 {
					refused++
				}
				l = Learn(l, vid, addr, port)
				m.learn(vid, addr, port)
			}
			wantBook(t, "some", l, m.written())
			vid, addr := 4+next(5), uint64(next(21))
			s, known := m[key{vid, addr}]
			wantLook(t, "some", l, vid, addr, s.port, known)
		}
	}
	if gone < 100 || refused < 100 || moved < 100 {
		t.Errorf("%d went, %d were refused and %d moved: too few to tell", gone, refused, moved)
	}
}

// Z3: nil and a list without entries are the same.
func TestNilIsEmpty(t *testing.T) {
	for _, l := range [][]api.Entry{nil, {}, ordinary()[2:2], full()[30:]} {
		wantWrong(t, "empty", l, api.OK, 0)
		wantBook(t, "Learn", Learn(l, 5, 10, 1), []api.Entry{entry(5, 10, 1, 0)})
		wantBook(t, "Learn nothing", Learn(l, 0, 10, 1), nil)
		wantLook(t, "empty", l, 5, 30, 0, false)
		for _, later := range []int{-1, 0, 1, 301} {
			wantBook(t, "Old", Old(l, later), nil)
		}
		for _, ways := range [][]int{nil, {}, []int{5}[1:], []int{5}[:0], {5}} {
			wantBook(t, "Flush", Flush(l, 1, ways), nil)
		}
	}
	for _, ways := range [][]int{nil, {}, []int{5}[1:], []int{5}[:0]} {
		wantBook(t, "no ways", Flush(ordinary(), 1, ways), ordinary())
	}
}

// spaced is l, with something ahead of it and behind it.
func spaced[T any](l []T, x T) (whole, part []T) {
	whole = append([]T{x}, l...)
	whole = append(whole, x, x, x)
	return whole, whole[1 : 1+len(l)]
}

// fill takes the spare room too.
func fill[T any](l []T, x T) {
	l = l[:cap(l)]
	for i := range l {
		l[i] = x
	}
}

// call is one that answers a book, and what must come of it.
type call struct {
	what string
	ask  func(l []api.Entry) []api.Entry
	want func(l []api.Entry) []api.Entry
}

func calls() []call {
	same := func(l []api.Entry) []api.Entry { return slices.Clone(l) }
	var all []call
	for _, k := range []key{{5, 10}, {5, 5}, {5, 25}, {7, 15}, {4094, 9}, {100, 1000}, {102, 1090}} {
		all = append(all, call{"Learn",
			func(l []api.Entry) []api.Entry { return Learn(l, k.vid, k.addr, 6) },
			func(l []api.Entry) []api.Entry { return knownLearn(l, k.vid, k.addr, 6) }})
	}
	for _, e := range []api.Entry{{Addr: 10}, {VID: 5, Addr: manyBit}, {VID: 5, Addr: 1 << 48}, {VID: 5, Addr: 10, Port: 31}} {
		all = append(all, call{"Learn nothing", func(l []api.Entry) []api.Entry { return Learn(l, e.VID, e.Addr, e.Port) }, same})
	}
	for _, later := range []int{-1, 0, 2, 300, 301} {
		all = append(all, call{"Old",
			func(l []api.Entry) []api.Entry { return Old(l, later) },
			func(l []api.Entry) []api.Entry { return knownOld(l, later) }})
	}
	for _, ways := range [][]int{nil, {5}, {5, 7}, {100, 101}} {
		all = append(all, call{"Flush",
			func(l []api.Entry) []api.Entry { return Flush(l, 1, ways) },
			func(l []api.Entry) []api.Entry { return knownFlush(l, 1, ways) }})
	}
	return all
}

// Z2: neither a list nor the spare room behind it is changed, or looked at; what is answered is new memory, its spare room too.
func TestBooksAreOnlyReadAndAnswersNew(t *testing.T) {
	junk := entry(9999, math.MaxUint64, 99, 999)
	for what, base := range goodBooks() {
		for _, x := range []api.Entry{junk, entry(5, 10, 1, 4), entry(4094, 9, 3, 0)} {
			for _, c := range calls() {
				whole, part := spaced(base, x)
				kept := slices.Clone(whole)
				got, again := c.ask(part), c.ask(part)
				want := c.want(base)
				wantBook(t, what+": "+c.what, got, want)
				if !slices.Equal(whole, kept) {
					t.Errorf("%s: %s: %v is changed to %v", what, c.what, kept, whole)
				}
				fill(got, junk)
				if !slices.Equal(whole, kept) {
					t.Errorf("%s: %s: an answer shares memory with %v", what, c.what, kept)
				}
				wantBook(t, what+": "+c.what+", beside another answer", again, want)
				fill(whole, junk)
				wantBook(t, what+": "+c.what+", kept", again, want)
				wantBook(t, what+": "+c.what+", asked again", c.ask(base), want)
			}
		}
	}
}

// Z2: Wrong and Look change nothing, and look at nothing behind the list.
func TestAskedBooksAreOnlyRead(t *testing.T) {
	for what, base := range goodBooks() {
		for _, x := range []api.Entry{{}, entry(4094, 9, 3, 0), entry(5, 10, 1, 4)} {
			whole, part := spaced(base, x)
			kept := slices.Clone(whole)
			wantWrong(t, what, part, api.OK, 0)
			s, known := notesOf(base)[key{x.VID, x.Addr}]
			wantLook(t, what, part, x.VID, x.Addr, s.port, known)
			if !slices.Equal(whole, kept) {
				t.Errorf("%s: %v is changed to %v", what, kept, whole)
			}
		}
	}
}

// Z2: the ways of Flush are only read, and what stands behind them is none of them.
func TestWaysAreOnlyRead(t *testing.T) {
	for _, ways := range [][]int{nil, {7}, {7, 3, 7, 1}} {
		whole, part := spaced(ways, 5)
		kept := slices.Clone(whole)
		got := Flush(ordinary(), 1, part)
		if !slices.Equal(whole, kept) {
			t.Errorf("%v is changed to %v", kept, whole)
		}
		fill(whole, 5)
		wantBook(t, "spare ways", got, ordinary())
	}
}

// Z1: what is answered hangs on nothing but the arguments, whoever else asks at the same time.
func TestManyAskAtOnce(t *testing.T) {
	l := full()
	var all sync.WaitGroup
	for i := range 8 {
		all.Go(func() {
			for range 50 {
				wantBook(t, "Learn", Learn(l, 100, 1000, i), knownLearn(l, 100, 1000, i))
				wantBook(t, "Old", Old(l, 10*i), knownOld(l, 10*i))
				wantBook(t, "Flush", Flush(l, i, []int{100}), knownFlush(l, i, []int{100}))
				wantLook(t, "at once", l, 100, uint64(1000+10*i), i, true)
			}
		})
	}
	all.Wait()
}

// askAll also asks that lists that are no books are only read.
func askAll(t *testing.T, l []api.Entry, vid int, addr uint64, port int) {
	t.Helper()
	kept := slices.Clone(l)
	Wrong(l)
	Look(l, vid, addr)
	junk := entry(9999, math.MaxUint64, 99, 999)
	for _, got := range [][]api.Entry{Learn(l, vid, addr, port), Old(l, port), Old(l, vid), Flush(l, port, []int{vid, port}), Flush(l, port, nil)} {
		fill(got, junk)
	}
	if !slices.Equal(l, kept) {
		t.Errorf("%v is changed to %v", kept, l)
	}
}

// H1 and Z1: of lists that are no books nothing panics.
func TestNothingPanics(t *testing.T) {
	numbers := []int{math.MinInt, -1 << 32, -301, -1, 0, 1, 5, 31, 301, 4095, 1 << 32, math.MaxInt}
	for _, n := range numbers {
		for _, m := range numbers {
			l := []api.Entry{entry(n, uint64(m), m, n), entry(m, uint64(n), n, m), entry(5, 10, n, m), entry(5, 9, m, n), entry(5, 10, n, n)}
			for _, vid := range []int{n, m, 5} {
				askAll(t, l, vid, uint64(m), n)
				askAll(t, l, vid, 10, m)
				askAll(t, slices.Repeat(l, 20), vid, 10, 3)
			}
		}
	}
}

// H1 and H2: whatever two entries there are.
func FuzzBook(f *testing.F) {
	f.Add(5, uint64(10), 1, 4, 7, uint64(15), 2, 300, 5, uint64(10), 3, 1)
	f.Add(1, uint64(0), 0, 0, 4094, uint64(api.MaxAddr), 30, 300, 4094, uint64(manyBit), 30, -1)
	f.Add(0, uint64(1<<48), 31, 301, -1, uint64(math.MaxUint64), -1, -1, 0, uint64(0), -1, math.MaxInt)
	f.Fuzz(func(t *testing.T, vidA int, addrA uint64, portA, ageA, vidB int, addrB uint64, portB, ageB, vid int, addr uint64, port, later int) {
		l := []api.Entry{entry(vidA, addrA, portA, ageA), entry(vidB, addrB, portB, ageB)}
		askAll(t, l, vid, addr, port)
		want := knownWrong(l)
		wantWrong(t, "two", l, want.Err, want.At)
		if want.Err != api.OK {
			return
		}
		s, known := notesOf(l)[key{vid, addr}]
		wantLook(t, "two", l, vid, addr, s.port, known)
		wantBook(t, "Learn", Learn(l, vid, addr, port), knownLearn(l, vid, addr, port))
		wantBook(t, "Old", Old(l, later), knownOld(l, later))
		wantBook(t, "Flush", Flush(l, port, []int{vid, vidB}), knownFlush(l, port, []int{vid, vidB}))
	})
}
