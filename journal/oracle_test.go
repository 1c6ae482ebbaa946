package journal_test

import (
	"encoding/binary"
	"math/rand"
	"slices"
	"strings"
	"testing"

	"treenail/api"
	"treenail/engine"
	"treenail/journal"
)

// sumByWords is the sum told at once: the first number has each byte once, the second one each byte as often as there are bytes from it on.
func sumByWords(b []byte, place int) (uint64, uint64) {
	low, high := uint64(1), uint64(max(place, 0))%65521+uint64(len(b))
	for i, c := range b {
		low += uint64(c)
		high += uint64(c) * uint64(len(b)-i)
	}
	return low % 65521, high % 65521
}

// recordByWords is a step's record, and whether it can be written.
func recordByWords(s engine.Step, place int) ([]byte, bool) {
	if !slices.Contains([]int{1, 2, 3, 4, 5}, s.What) || min(s.Key, s.N, place) < 0 || max(s.Key, s.N) > 1<<40 {
		return nil, false
	}
	var b [24]byte
	b[0] = byte(s.What)
	binary.LittleEndian.PutUint64(b[1:], uint64(s.Key))
	binary.LittleEndian.PutUint64(b[7:], uint64(s.N))
	low, high := sumByWords(b[:13], place)
	binary.LittleEndian.PutUint16(b[13:], uint16(low))
	binary.LittleEndian.PutUint16(b[15:], uint16(high))
	return b[:17], true
}

// readByWords are the steps of the records with which a text begins.
func readByWords(j string) []engine.Step {
	var l []engine.Step
	for b := []byte(j); len(b) >= 17 && len(l) < 10000; b = b[17:] {
		wide := func(at int) uint64 { return binary.LittleEndian.Uint64(b[at:]) & (1<<48 - 1) }
		low, high := sumByWords(b[:13], len(l))
		if b[0] < 1 || b[0] > 5 || wide(1) > 1<<40 || wide(7) > 1<<40 || uint64(binary.LittleEndian.Uint16(b[13:])) != low || uint64(binary.LittleEndian.Uint16(b[15:])) != high {
			break
		}
		l = append(l, engine.Step{What: int(b[0]), Key: int(wide(1)), N: int(wide(7))})
	}
	return l
}

func anyNumber(r *rand.Rand) int {
	return []int{0, 1, r.Intn(1000), r.Intn(1 << 16), r.Intn(end + 1), end, end - 1, 255, 256, 1 << (8 * r.Intn(6))}[r.Intn(10)]
}

// anyStep is a step that can be written.
func anyStep(r *rand.Rand) engine.Step {
	return engine.Step{What: 1 + r.Intn(5), Key: anyNumber(r), N: anyNumber(r)}
}

func anySteps(r *rand.Rand, count int) []engine.Step {
	var l []engine.Step
	for range count {
		l = append(l, anyStep(r))
	}
	return l
}

// wrongStep is a step that mostly can't be written.
func wrongStep(r *rand.Rand) engine.Step {
	s := anyStep(r)
	switch r.Intn(4) {
	case 0:
		s.What = []int{0, 6, -1, 256 + r.Intn(5), r.Int()}[r.Intn(5)]
	case 1:
		s.Key = []int{-1, end + 1, -r.Intn(end), r.Int()}[r.Intn(4)]
	case 2:
		s.N = []int{-1, end + 1, -r.Intn(end), r.Int()}[r.Intn(4)]
	}
	return s
}

// anyPlace is a place at or near those at which sums go round, or any one.
func anyPlace(r *rand.Rand) int {
	return []int{r.Intn(3) - 1, r.Intn(10000), 65521 * r.Intn(1000), 65521*r.Intn(1000) - 1, 65500 + r.Intn(30), r.Int(), -r.Int()}[r.Intn(7)]
}

// 31.1: sums of any bytes.
func TestSums(t *testing.T) {
	r := rand.New(rand.NewSource(31))
	for i := range 3000 {
		b := make([]byte, r.Intn(40))
		if i%100 == 0 {
			b = make([]byte, r.Intn(100000))
		}
		r.Read(b)
		place := anyPlace(r)
		low, high := journal.Sum(string(b), place)
		if x, y := sumByWords(b, place); uint64(low) != x || uint64(high) != y {
			t.Fatalf("%q at %d: %d, %d; want %d, %d", b, place, low, high, x, y)
		}
	}
}

// 31.1: records, and what is put behind others, of any steps at any places.
func TestRecords(t *testing.T) {
	r := rand.New(rand.NewSource(32))
	came := map[api.Errno]int{}
	for range 20000 {
		s, place := wrongStep(r), anyPlace(r)
		if r.Intn(3) == 0 {
			s = anyStep(r)
		}
		want, ok := recordByWords(s, place)
		wrong := api.ErrArg
		if ok {
			wrong = api.OK
		}
		if b, got := journal.Record(s, place); b != string(want) || got != wrong {
			t.Fatalf("%v at %d: %q, %v; want %q", s, place, b, got, want)
		}
		ahead := strings.Repeat("j", []int{r.Intn(100), 19970 + r.Intn(40)}[r.Intn(2)])
		if wrong == api.OK && len(ahead)+17 > 20000 {
			wrong = api.ErrFull
		}
		j, got := journal.Append(ahead, place, s)
		if got != wrong || got == api.OK && j != ahead+string(want) || got != api.OK && j != "" {
			t.Fatalf("%d bytes, %v at %d: %d bytes, %v; want %v", len(ahead), s, place, len(j), got, wrong)
		}
		came[got]++
	}
	for _, err := range []api.Errno{api.OK, api.ErrArg, api.ErrFull} {
		if came[err] < 2000 {
			t.Errorf("%v: %d times", err, came[err])
		}
	}
}

// 31.1, 31.4: journals of many steps, some of which can't be written.
func TestJournals(t *testing.T) {
	r := rand.New(rand.NewSource(33))
	came := map[api.Errno]int{}
	for i := range 600 {
		l := anySteps(r, []int{r.Intn(6), r.Intn(200), room - 2 + r.Intn(5)}[i%3])
		for at := range l {
			if r.Intn(2*len(l)) == 0 {
				l[at] = wrongStep(r)
			}
		}
		var want []byte
		wrong := api.OK
		for place, s := range l {
			b, ok := recordByWords(s, place)
			if !ok {
				wrong = api.ErrArg
			}
			want = append(want, b...)
		}
		if wrong == api.OK && len(want) > 20000 {
			wrong = api.ErrFull
		}
		j, err := journal.Encode(l)
		came[err]++
		if err != wrong || err != api.OK && j != "" || err == api.OK && j != string(want) {
			t.Fatalf("%v: %q, %v; want %q, %v", l, j, err, want, wrong)
		}
		if err == api.OK {
			wantRead(t, "what was written", j, l, true)
		}
	}
	for _, err := range []api.Errno{api.OK, api.ErrArg, api.ErrFull} {
		if came[err] < 30 {
			t.Errorf("%v: %d times", err, came[err])
		}
	}
}

// damaged is a journal to which something was done: bytes are other ones, gone, or more, records change places, or are those of other places, or of no steps.
func damaged(r *rand.Rand, j string) string {
	b := []byte(j)
	at := r.Intn(len(b) + 1)
	first := at / 17 * 17
	switch r.Intn(7) {
	case 0:
		return j[:at]
	case 1:
		return j[:at] + j[min(len(j), at+1+r.Intn(34)):]
	case 2:
		return j[:at] + strings.Repeat(string([]byte{byte(r.Intn(256))}), 1+r.Intn(34)) + j[at:]
	case 3:
		if at < len(b) {
			b[at] ^= byte(1 << r.Intn(8))
		}
		return string(b)
	case 4:
		return j[first:] + j[:first]
	case 5:
		more, _ := recordByWords(anyStep(r), r.Intn(5))
		return j[:first] + string(more) + j[first:]
	}
	// The sum is right, and the bytes may be those of no step.
	if first+17 > len(b) {
		return j
	}
	b[first+[]int{0, 6, 12}[r.Intn(3)]] = byte(r.Intn(8))
	low, high := sumByWords(b[first:first+13], first/17)
	binary.LittleEndian.PutUint16(b[first+13:], uint16(low))
	binary.LittleEndian.PutUint16(b[first+15:], uint16(high))
	return string(b)
}

// 31.2: what is read of journals to which something was done.
func TestDamaged(t *testing.T) {
	r := rand.New(rand.NewSource(34))
	var some, none, all, more int
	for range 20000 {
		l := anySteps(r, r.Intn(8))
		j, _ := journal.Encode(l)
		for range 1 + r.Intn(2) {
			j = damaged(r, j)
		}
		want := readByWords(j)
		read, many := journal.Decode(j)
		if !slices.Equal(read, want) || many != 17*len(want) || journal.Whole(j) != (many == len(j)) {
			t.Fatalf("%q: %v, %d; want %v", j, read, many, want)
		}
		switch {
		case many == len(j):
			all++
		case many == 0:
			none++
		case many < len(l)*17:
			some++
		default:
			more++
		}
	}
	if min(some, none, all, 10*more) < 1000 {
		t.Errorf("some were read: %d, none: %d, all: %d, all steps and no more: %d", some, none, all, more)
	}
}

// P3, 31.2: what is read of any bytes at all.
func TestAnyBytes(t *testing.T) {
	r := rand.New(rand.NewSource(35))
	for range 20000 {
		b := make([]byte, r.Intn(60))
		for i := range b {
			b[i] = byte(r.Intn([]int{2, 6, 256}[r.Intn(3)]))
		}
		want := readByWords(string(b))
		if read, many := journal.Decode(string(b)); !slices.Equal(read, want) || many != 17*len(want) {
			t.Fatalf("%q: %v, %d; want %v", b, read, many, want)
		}
	}
}
