package journal_test

import (
	"math"
	"slices"
	"strings"
	"testing"

	"treenail/api"
	"treenail/engine"
	"treenail/journal"
)

const end = 1 << 40

// room is how many records a text of api.MaxText bytes has room for: there are 17 bytes more in one more.
const room = 1176

// noughts are so many bytes 0.
func noughts(count int) string { return strings.Repeat("\x00", count) }

// ticks are so many steps.
func ticks(count int) []engine.Step {
	l := make([]engine.Step, count)
	for i := range l {
		l[i] = engine.Step{What: engine.Tick, N: i}
	}
	return l
}

func record(t *testing.T, s engine.Step, place int) string {
	t.Helper()
	r, err := journal.Record(s, place)
	if err != api.OK {
		t.Fatalf("%v at %d: %v", s, place, err)
	}
	return r
}

func encoded(t *testing.T, l []engine.Step) string {
	t.Helper()
	j, err := journal.Encode(l)
	if err != api.OK {
		t.Fatalf("%d steps: %v", len(l), err)
	}
	return j
}

// summed are bytes with their sum behind them.
func summed(b string, place int) string {
	low, high := journal.Sum(b, place)
	return b + string([]byte{byte(low), byte(low >> 8), byte(high), byte(high >> 8)})
}

// 31: the chapter's example.
func TestExample(t *testing.T) {
	if r := record(t, engine.Step{What: engine.Pick, Key: 1}, 0); r != "\x03\x01"+noughts(11)+"\x05\x00\x40\x00" {
		t.Errorf("%q", r)
	}
}

// 31.1: so many records a journal has.
func TestMost(t *testing.T) {
	if journal.Most != 10000 {
		t.Error(journal.Most)
	}
}

// 31.1: the two numbers of a sum, where they begin, and where they go round.
func TestSum(t *testing.T) {
	full := strings.Repeat("\xff", 256)
	for _, c := range []struct {
		bytes     string
		place     int
		low, high int
	}{
		{"", 0, 1, 0}, {"", 1, 1, 1}, {"", 65520, 1, 65520}, {"", 65521, 1, 0}, {"", 65522, 1, 1}, {"", 2*65521 + 7, 1, 7},
		{"", -1, 1, 0}, {"", -65520, 1, 0}, {"", math.MinInt, 1, 0}, {"a", -3, 98, 98}, {"", math.MaxInt, 1, math.MaxInt % 65521}, {"", end, 1, end % 65521},
		{"ab", 3, 196, 297}, {"ba", 3, 196, 298}, {"\x00", 0, 1, 1}, {"\x00\x00\x00", 5, 1, 8}, {"\xff", 0, 256, 256}, {"\x80", 9, 129, 138},
		{"\x00", 65520, 1, 0}, {"\x01", 65519, 2, 0}, {"\x01", 65520, 2, 1}, {"\xff", 65265, 256, 0}, {"\xff", 65264, 256, 65520},
		{full, 0, 65281, 2048}, {full + "\xee", 0, 65519, 2046}, {full + "\xef", 0, 65520, 2047}, {full + "\xf0", 0, 0, 2048}, {full + "\xff", 0, 15, 2063},
		{noughts(65520), 0, 1, 65520}, {noughts(65521), 0, 1, 0}, {noughts(65522), 0, 1, 1},
	} {
		if low, high := journal.Sum(c.bytes, c.place); low != c.low || high != c.high {
			t.Errorf("%d bytes, %d: %d, %d; want %d, %d", len(c.bytes), c.place, low, high, c.low, c.high)
		}
	}
}

// 31.1: the bytes of steps of all kinds, with the least and the greatest numbers.
func TestRecord(t *testing.T) {
	for _, c := range []struct {
		s     engine.Step
		place int
		want  string
	}{
		{engine.Step{What: engine.Open}, 0, "\x01" + noughts(12) + "\x02\x00\x1a\x00"},
		{engine.Step{What: engine.Open}, 6, "\x01" + noughts(12) + "\x02\x00\x20\x00"},
		{engine.Step{What: engine.Close, Key: 300}, 0, "\x05\x2c\x01" + noughts(10) + "\x33\x00\x69\x02"},
		{engine.Step{What: engine.Tick, N: end}, 1, "\x04" + noughts(11) + "\x01\x06\x00\x43\x00"},
		{engine.Step{What: engine.Send, Key: end - 1, N: 3}, 2, "\x02\xff\xff\xff\xff\xff\x00\x03" + noughts(5) + "\x01\x05\x09\x32"},
		{engine.Step{What: engine.Pick, Key: 0x060504030201 % end, N: 0x0908070605}, 65521, "\x03\x01\x02\x03\x04\x05\x00\x05\x06\x07\x08\x09\x00\x36\x00\x42\x01"},
		{engine.Step{What: engine.Open, Key: end, N: end}, 65520, "\x01\x00\x00\x00\x00\x00\x01\x00\x00\x00\x00\x00\x01\x04\x00\x21\x00"},
	} {
		if r := record(t, c.s, c.place); r != c.want {
			t.Errorf("%v at %d: %q, want %q", c.s, c.place, r, c.want)
		}
	}
}

// 31.1: what is no step that can be written, and no place.
func TestRecordErrors(t *testing.T) {
	for _, c := range []struct {
		s     engine.Step
		place int
		want  api.Errno
	}{
		{engine.Step{}, 0, api.ErrArg}, {engine.Step{What: 6}, 0, api.ErrArg}, {engine.Step{What: -1}, 0, api.ErrArg}, {engine.Step{What: 257}, 0, api.ErrArg},
		{engine.Step{What: math.MinInt}, 0, api.ErrArg}, {engine.Step{What: math.MaxInt}, 0, api.ErrArg},
		{engine.Step{What: 1, Key: -1}, 0, api.ErrArg}, {engine.Step{What: 1, Key: end + 1}, 0, api.ErrArg}, {engine.Step{What: 1, Key: math.MinInt}, 0, api.ErrArg},
		{engine.Step{What: 5, Key: math.MaxInt}, 0, api.ErrArg}, {engine.Step{What: 5, N: -1}, 0, api.ErrArg}, {engine.Step{What: 5, N: end + 1}, 0, api.ErrArg},
		{engine.Step{What: 2, N: math.MaxInt}, 0, api.ErrArg}, {engine.Step{What: 2, N: math.MinInt}, 0, api.ErrArg},
		{engine.Step{What: 1}, -1, api.ErrArg}, {engine.Step{What: 1}, math.MinInt, api.ErrArg},
		{engine.Step{What: 1}, math.MaxInt, api.OK}, {engine.Step{What: 5, Key: end, N: end}, 10000, api.OK}, {engine.Step{What: 3}, 9999, api.OK},
	} {
		r, err := journal.Record(c.s, c.place)
		if err != c.want || (len(r) == 17) != (err == api.OK) || err != api.OK && r != "" {
			t.Errorf("%v at %d: %q, %v", c.s, c.place, r, err)
		}
		if j, err := journal.Append("abc", c.place, c.s); err != c.want || err != api.OK && j != "" || err == api.OK && j != "abc"+r {
			t.Errorf("Append %v at %d: %q, %v", c.s, c.place, j, err)
		}
		if err := c.want; c.place == 0 {
			l := append(ticks(3), c.s, engine.Step{What: 1})
			if j, got := journal.Encode(l); got != err || j != "" {
				t.Errorf("Encode %v: %q, %v", c.s, j, got)
			}
		}
	}
}

// 31.1: a record is put behind whatever there is, as far as there is room.
func TestAppend(t *testing.T) {
	s := engine.Step{What: engine.Pick, Key: 7, N: 1}
	for _, c := range []struct {
		ahead int
		want  api.Errno
	}{{0, api.OK}, {1, api.OK}, {17, api.OK}, {19982, api.OK}, {19983, api.OK}, {19984, api.ErrFull}, {20000, api.ErrFull}, {20001, api.ErrFull}, {30000, api.ErrFull}} {
		ahead := strings.Repeat("x", c.ahead)
		j, err := journal.Append(ahead, 5, s)
		if want := ahead + record(t, s, 5); err != c.want || err == api.OK && j != want || err != api.OK && j != "" {
			t.Errorf("%d: %d bytes, %v", c.ahead, len(j), err)
		}
	}
	if j, err := journal.Append(noughts(20000), 0, engine.Step{What: 6}); err != api.ErrArg || j != "" {
		t.Errorf("%q, %v", j, err)
	}
	if j, err := journal.Append(noughts(20000), -1, s); err != api.ErrArg || j != "" {
		t.Errorf("%q, %v", j, err)
	}
}

// 31.1: a journal is its steps' records, one behind the other, each at its place.
func TestEncode(t *testing.T) {
	l := []engine.Step{{What: engine.Open, Key: 1}, {What: engine.Open, Key: 1}, {What: engine.Close, Key: 1, N: end}}
	if j := encoded(t, l); j != record(t, l[0], 0)+record(t, l[1], 1)+record(t, l[2], 2) {
		t.Errorf("%q", j)
	}
	for _, none := range [][]engine.Step{nil, {}} {
		if j := encoded(t, none); j != "" {
			t.Errorf("%q", j)
		}
	}
}

// 31.1: the errors of many steps, the first that is so.
func TestEncodeErrors(t *testing.T) {
	wrong := func(count, at int) []engine.Step {
		l := ticks(count)
		l[at].Key = -1
		return l
	}
	for i, c := range []struct {
		l    []engine.Step
		want api.Errno
	}{
		{ticks(room), api.OK}, {ticks(room + 1), api.ErrFull}, {ticks(10000), api.ErrFull}, {ticks(10001), api.ErrLong}, {ticks(20000), api.ErrLong},
		{wrong(1, 0), api.ErrArg}, {wrong(room, room-1), api.ErrArg}, {wrong(room+1, room), api.ErrArg}, {wrong(10000, 9999), api.ErrArg}, {wrong(10001, 0), api.ErrLong},
		{make([]engine.Step, 10000), api.ErrArg}, {make([]engine.Step, 10001), api.ErrLong},
	} {
		j, err := journal.Encode(c.l)
		if err != c.want || err == api.OK && len(j) != 17*len(c.l) || err != api.OK && j != "" {
			t.Errorf("%d: %d bytes, %v; want %v", i, len(j), err, c.want)
		}
	}
}

// wantRead asks for so many steps that are read of a journal; whole tells whether they are all of it.
func wantRead(t *testing.T, name, j string, want []engine.Step, whole bool) {
	t.Helper()
	l, many := journal.Decode(j)
	if !slices.Equal(l, want) || many != 17*len(want) {
		t.Errorf("%s: %d steps, %d bytes; want %d steps", name, len(l), many, len(want))
	}
	if is := journal.Whole(j); is != whole {
		t.Errorf("%s: Whole: %v", name, is)
	}
}

// 31.2: what is no record ends what is read, and what stands behind it is not read.
func TestDecode(t *testing.T) {
	l := []engine.Step{{What: engine.Open, Key: 300}, {What: engine.Pick, Key: 300, N: end}, {What: engine.Tick, N: 127}}
	j := encoded(t, l)
	first, second, third := j[:17], j[17:34], j[34:]
	wantRead(t, "none", "", nil, true)
	wantRead(t, "all", j, l, true)
	wantRead(t, "and more", j+"\x00", l, false)
	wantRead(t, "and a record of noughts", j+noughts(17), l, false)
	wantRead(t, "and its first again", j+first, l, false)
	wantRead(t, "the last two turned round", first+third+second, l[:1], false)
	wantRead(t, "without the first", second+third, nil, false)
	wantRead(t, "without the second", first+third, l[:1], false)
	wantRead(t, "a byte ahead", "\x00"+j, nil, false)
	wantRead(t, "a byte between", first+"\x01"+second+third, l[:1], false)
	wantRead(t, "a byte less", first+second[:16]+third, l[:1], false)
	wantRead(t, "of noughts", noughts(34), nil, false)
	wantRead(t, "right at places that go round", record(t, l[0], 65521)+record(t, l[1], 65522), l[:2], true)
}

// 31.2: bytes with a right sum that are of no step.
func TestNoSteps(t *testing.T) {
	ahead := []engine.Step{{What: engine.Open, Key: 1}}
	for name, b := range map[string]string{
		"what 0":            "\x00" + noughts(12),
		"what 6":            "\x06" + noughts(12),
		"what 255":          "\xff" + noughts(12),
		"a key too great":   "\x01\x01\x00\x00\x00\x00\x01" + noughts(6),
		"a key of 2^41":     "\x01\x00\x00\x00\x00\x00\x02" + noughts(6),
		"the greatest key":  "\x01\xff\xff\xff\xff\xff\xff" + noughts(6),
		"a number of 2^47":  "\x01" + noughts(11) + "\x80",
		"a number too much": "\x04" + noughts(6) + "\x01\x00\x00\x00\x00\x01",
	} {
		wantRead(t, name, summed(b, 0), nil, false)
		wantRead(t, name, encoded(t, ahead)+summed(b, 1), ahead, false)
		wantRead(t, name, summed(b, 0)+encoded(t, ahead), nil, false)
	}
	wantRead(t, "the greatest that is one", summed("\x05\x00\x00\x00\x00\x00\x01\x00\x00\x00\x00\x00\x01", 0), []engine.Step{{What: engine.Close, Key: end, N: end}}, true)
}

// 31.2: a sum is two numbers below 65521: what is one and 65521 is not the same bytes.
func TestSumsAsBytes(t *testing.T) {
	b := "\x01" + noughts(12)
	low, high := journal.Sum(b, 0)
	put := func(low, high int) string {
		return b + string([]byte{byte(low), byte(low >> 8), byte(high), byte(high >> 8)})
	}
	wantRead(t, "right", put(low, high), []engine.Step{{What: engine.Open}}, true)
	wantRead(t, "the first and 65521", put(low+65521, high), nil, false)
	wantRead(t, "the second and 65521", put(low, high+65521), nil, false)
	wantRead(t, "turned round", put(high, low), nil, false)
}

// 31.2: at most Most records are read, also of a text that has more than a journal can be written.
func TestDecodeMost(t *testing.T) {
	l := ticks(10002)
	var text strings.Builder
	for place, s := range l {
		text.WriteString(record(t, s, place))
	}
	j := text.String()
	wantRead(t, "9999", j[:17*9999], l[:9999], true)
	wantRead(t, "10000", j[:17*10000], l[:10000], true)
	wantRead(t, "10001", j[:17*10001], l[:10000], false)
	wantRead(t, "10002", j, l[:10000], false)
	wantRead(t, "10000 and a byte", j[:17*10000+1], l[:10000], false)
}

// 31.3: of a journal without its last bytes the records that are whole are read.
func TestTorn(t *testing.T) {
	l := append(ticks(3), engine.Step{What: engine.Open, Key: end, N: end}, engine.Step{What: engine.Pick}, engine.Step{What: engine.Open})
	j := encoded(t, l)
	for cut := range len(j) + 1 {
		wantRead(t, "torn", j[:cut], l[:cut/17], cut%17 == 0)
	}
}

// 31.4: what was written is read, up to as much as can be written.
func TestWritten(t *testing.T) {
	wantRead(t, "as much as can be", encoded(t, ticks(room)), ticks(room), true)
	j := ""
	for place, s := range ticks(room) {
		var err api.Errno
		if j, err = journal.Append(j, place, s); err != api.OK {
			t.Fatalf("%d: %v", place, err)
		}
	}
	if j != encoded(t, ticks(room)) {
		t.Error("Append: other bytes than those of Encode")
	}
	if _, err := journal.Append(j, room, engine.Step{What: engine.Tick}); err != api.ErrFull {
		t.Error(err)
	}
}

// 31.5: a record with any one other byte is none.
func TestOneByte(t *testing.T) {
	for place, s := range []engine.Step{{What: engine.Open}, {What: engine.Send, Key: 999, N: 3}, {What: engine.Pick, Key: end, N: end}, {What: engine.Tick, N: end - 1}, {What: engine.Close, Key: end - 1, N: 255}} {
		ahead := ticks(place)
		j := encoded(t, append(slices.Clone(ahead), s))
		for at := range 17 {
			for other := range 256 {
				b := []byte(j)
				if b[17*place+at] == byte(other) {
					continue
				}
				b[17*place+at] = byte(other)
				if l, many := journal.Decode(string(b)); !slices.Equal(l, ahead) || many != 17*place {
					t.Fatalf("%v at %d: %d at %d: %v", s, place, other, at, l)
				}
			}
		}
	}
}

// R3: what is handed in is not changed, and what is told is new memory.
func TestMemory(t *testing.T) {
	l := ticks(5)[:3]
	j := encoded(t, l)
	if !slices.Equal(l[:5], ticks(5)) {
		t.Errorf("%v", l[:5])
	}
	read, _ := journal.Decode(j)
	for i := range read[:cap(read)] {
		read[:cap(read)][i].Key = 77
	}
	wantRead(t, "again", j, l, true)
}

// P3: every call ends, whatever it is given.
func TestEnds(t *testing.T) {
	numbers := []int{math.MinInt, -1, 0, 1, 5, 6, end, end + 1, math.MaxInt}
	for _, what := range numbers {
		for _, key := range numbers {
			for _, n := range numbers {
				s := engine.Step{What: what, Key: key, N: n}
				for _, place := range numbers {
					journal.Record(s, place)
					journal.Append("abc", place, s)
					journal.Sum("abc", place)
				}
				journal.Encode([]engine.Step{s, s})
			}
		}
	}
	for count := range 40 {
		for _, b := range []string{"\x00", "\x01", "\x05", "\xff", "x"} {
			journal.Decode(strings.Repeat(b, count))
			journal.Whole(strings.Repeat(b, count))
		}
	}
}
