package post_test

import (
	"math"
	"slices"
	"strconv"
	"strings"
	"testing"

	"treenail/api"
	"treenail/post"
)

// do does what is written as open 5, close 5, put 5 1 or take 5 1.
func do(o *post.Office, text string) api.Errno {
	words := append(strings.Fields(text), "0")
	key, _ := strconv.Atoi(words[1])
	m, _ := strconv.Atoi(words[2])
	switch words[0] {
	case "open":
		return o.Open(key)
	case "close":
		return o.Close(key)
	case "put":
		return o.Put(key, m)
	}
	return o.Take(key, m)
}

// after is an office behind all this, none of which may be an error.
func after(t *testing.T, texts ...string) *post.Office {
	t.Helper()
	o := post.New()
	for _, text := range texts {
		if err := do(o, text); err != api.OK {
			t.Fatalf("%s: %v", text, err)
		}
	}
	return o
}

// shown is all that can be told of an office.
func shown(o *post.Office) string {
	text := ""
	for _, key := range o.Keys() {
		w, ok := o.Waiting(key)
		text += strconv.Itoa(key) + ":"
		for _, k := range w {
			text += " " + strconv.Itoa(k)
		}
		if !ok {
			text += " none"
		}
		text += "; "
	}
	return text
}

// 21.1: what is done to boxes, and its errors; 21.3: an error changes nothing.
func TestBoxes(t *testing.T) {
	full := []string{"open 0", "open 1", "open 2", "open 3", "open 4", "open 5", "open 6", "open 7"}
	three := []string{"open 5", "put 5 1", "put 5 1", "put 5 1"}
	for _, c := range []struct {
		ahead []string
		text  string
		want  api.Errno
		shown string
	}{
		{nil, "open 5", api.OK, "5: 0 0 0 0; "},
		{nil, "open 0", api.OK, "0: 0 0 0 0; "},
		{nil, "open 999", api.OK, "999: 0 0 0 0; "},
		{nil, "open 1000", api.ErrArg, ""},
		{nil, "open -1", api.ErrArg, ""},
		{three, "open 5", api.ErrSame, "5: 0 3 0 0; "},
		{full[:7], "open 9", api.OK, "0: 0 0 0 0; 1: 0 0 0 0; 2: 0 0 0 0; 3: 0 0 0 0; 4: 0 0 0 0; 5: 0 0 0 0; 6: 0 0 0 0; 9: 0 0 0 0; "},
		{full, "open 9", api.ErrFull, "0: 0 0 0 0; 1: 0 0 0 0; 2: 0 0 0 0; 3: 0 0 0 0; 4: 0 0 0 0; 5: 0 0 0 0; 6: 0 0 0 0; 7: 0 0 0 0; "},
		{full, "open 7", api.ErrSame, "0: 0 0 0 0; 1: 0 0 0 0; 2: 0 0 0 0; 3: 0 0 0 0; 4: 0 0 0 0; 5: 0 0 0 0; 6: 0 0 0 0; 7: 0 0 0 0; "},
		{full, "open 1000", api.ErrArg, "0: 0 0 0 0; 1: 0 0 0 0; 2: 0 0 0 0; 3: 0 0 0 0; 4: 0 0 0 0; 5: 0 0 0 0; 6: 0 0 0 0; 7: 0 0 0 0; "},
		{append(slices.Clone(full), "close 3"), "open 9", api.OK, "0: 0 0 0 0; 1: 0 0 0 0; 2: 0 0 0 0; 4: 0 0 0 0; 5: 0 0 0 0; 6: 0 0 0 0; 7: 0 0 0 0; 9: 0 0 0 0; "},
		{three, "close 5", api.OK, ""},
		{three, "close 6", api.ErrNone, "5: 0 3 0 0; "},
		{nil, "close 5", api.ErrNone, ""},
		{append(slices.Clone(three), "close 5"), "close 5", api.ErrNone, ""},
		{append(slices.Clone(three), "close 5"), "open 5", api.OK, "5: 0 0 0 0; "},
		{nil, "close 1000", api.ErrNone, ""},
		{nil, "close -1", api.ErrNone, ""},
		{three[:1], "put 5 0", api.OK, "5: 1 0 0 0; "},
		{three[:1], "put 5 3", api.OK, "5: 0 0 0 1; "},
		{three[:3], "put 5 1", api.OK, "5: 0 3 0 0; "},
		{three, "put 5 1", api.ErrFull, "5: 0 3 0 0; "},
		{three, "put 5 2", api.OK, "5: 0 3 1 0; "},
		{three, "put 5 4", api.ErrArg, "5: 0 3 0 0; "},
		{three, "put 5 -1", api.ErrArg, "5: 0 3 0 0; "},
		{three, "put 6 1", api.ErrNone, "5: 0 3 0 0; "},
		{three, "put 6 4", api.ErrArg, "5: 0 3 0 0; "},
		{three, "put 1000 1", api.ErrNone, "5: 0 3 0 0; "},
		{three, "put -1 -1", api.ErrArg, "5: 0 3 0 0; "},
		{three, "take 5 1", api.OK, "5: 0 2 0 0; "},
		{three, "take 5 0", api.ErrNone, "5: 0 3 0 0; "},
		{three[:2], "take 5 1", api.OK, "5: 0 0 0 0; "},
		{three[:1], "take 5 1", api.ErrNone, "5: 0 0 0 0; "},
		{three, "take 6 1", api.ErrNone, "5: 0 3 0 0; "},
		{three, "take 5 4", api.ErrArg, "5: 0 3 0 0; "},
		{three, "take 5 -1", api.ErrArg, "5: 0 3 0 0; "},
		{three, "take 6 4", api.ErrArg, "5: 0 3 0 0; "},
		{three, "take 1000 0", api.ErrNone, "5: 0 3 0 0; "},
	} {
		o := after(t, c.ahead...)
		if err := do(o, c.text); err != c.want {
			t.Errorf("%v, %s: %v, want %v", c.ahead, c.text, err, c.want)
		}
		if got := shown(o); got != c.shown {
			t.Errorf("%v, %s: %s, want %s", c.ahead, c.text, got, c.shown)
		}
	}
}

// 21.1: an office of New has no boxes; at most Boxes, 8, are opened.
func TestNew(t *testing.T) {
	o := post.New()
	if o == nil || len(o.Keys()) != 0 {
		t.Fatalf("%v", o)
	}
	if post.Boxes != 8 {
		t.Errorf("Boxes: %d", post.Boxes)
	}
	for key := range 1000 {
		want := api.OK
		if key >= 8 {
			want = api.ErrFull
		}
		if err := o.Open(key); err != want {
			t.Errorf("Open(%d): %v", key, err)
		}
	}
	if other := post.New(); len(other.Keys()) != 0 {
		t.Errorf("New: %v", other.Keys())
	}
}

// 21.2: how many wait; of what is no box nothing, and false.
func TestWaiting(t *testing.T) {
	o := after(t, "open 5", "put 5 1", "put 5 1", "put 5 3", "open 2", "put 2 0")
	for key, want := range map[int][api.Msgs]int{5: {0, 2, 0, 1}, 2: {1}} {
		if w, ok := o.Waiting(key); w != want || !ok {
			t.Errorf("Waiting(%d): %v, %v", key, w, ok)
		}
	}
	for _, key := range []int{0, 1, 3, 999, 1000, -1, math.MinInt, math.MaxInt} {
		if w, ok := o.Waiting(key); w != [api.Msgs]int{} || ok {
			t.Errorf("Waiting(%d): %v, %v", key, w, ok)
		}
	}
}

// 21.2: the keys rise, in whichever order the boxes were opened.
func TestKeys(t *testing.T) {
	keys := []int{999, 3, 0, 500, 12, 100, 2, 30}
	o := post.New()
	for i, key := range keys {
		o.Open(key)
		want := slices.Clone(keys[:i+1])
		slices.Sort(want)
		if got := o.Keys(); !slices.Equal(got, want) {
			t.Errorf("Keys: %v, want %v", got, want)
		}
	}
	o.Close(500)
	if got := o.Keys(); !slices.Equal(got, []int{0, 2, 3, 12, 30, 100, 999}) {
		t.Errorf("Keys: %v", got)
	}
}

// 21.2: what is done to a copy is not done to the office, nor the other way round.
func TestCopy(t *testing.T) {
	o := after(t, "open 5", "put 5 1", "open 2")
	c := o.Copy()
	was := shown(o)
	if shown(c) != was {
		t.Errorf("Copy: %s, want %s", shown(c), was)
	}
	for _, text := range []string{"put 5 1", "take 5 1", "take 5 1", "close 2", "open 7"} {
		do(c, text)
	}
	if shown(o) != was || shown(c) != "5: 0 0 0 0; 7: 0 0 0 0; " {
		t.Errorf("%s; %s", shown(o), shown(c))
	}
	was = shown(c)
	for _, text := range []string{"put 5 0", "close 5", "open 8", "put 2 3"} {
		do(o, text)
	}
	if shown(c) != was || shown(o) != "2: 0 0 0 1; 8: 0 0 0 0; " {
		t.Errorf("%s; %s", shown(o), shown(c))
	}
	none := post.New()
	empty := none.Copy()
	if empty == nil || empty.Open(1) != api.OK || len(none.Keys()) != 0 {
		t.Errorf("%s; %v", shown(none), empty)
	}
	if none.Open(2) != api.OK || shown(empty) != "1: 0 0 0 0; " {
		t.Errorf("%s", shown(empty))
	}
}

// R3: a list of keys is new memory.
func TestMemory(t *testing.T) {
	o := after(t, "open 5", "open 2", "open 9")
	first := o.Keys()
	second := o.Keys()
	first[:cap(first)][0] = 77
	_ = append(first, 78)
	if !slices.Equal(second, []int{2, 5, 9}) || !slices.Equal(o.Keys(), []int{2, 5, 9}) {
		t.Errorf("%v, %v", second, o.Keys())
	}
}

// 21: a nil office tells ErrState, but ErrArg first, and has nothing.
func TestNil(t *testing.T) {
	var o *post.Office
	for _, c := range []struct {
		text string
		want api.Errno
	}{
		{"open 5", api.ErrState}, {"open -1", api.ErrArg}, {"open 1000", api.ErrArg}, {"open 999", api.ErrState}, {"open 0", api.ErrState},
		{"close 5", api.ErrState}, {"put 5 0", api.ErrState}, {"put 5 3", api.ErrState}, {"put 5 4", api.ErrArg}, {"put 5 -1", api.ErrArg},
		{"take 5 0", api.ErrState}, {"take 5 3", api.ErrState}, {"take 5 4", api.ErrArg}, {"take 5 -1", api.ErrArg},
	} {
		if err := do(o, c.text); err != c.want {
			t.Errorf("%s: %v, want %v", c.text, err, c.want)
		}
	}
	if w, ok := o.Waiting(5); w != [api.Msgs]int{} || ok || len(o.Keys()) != 0 || o.Copy() != nil {
		t.Errorf("%v, %v, %v, %v", w, ok, o.Keys(), o.Copy())
	}
}

// P3: no call panics, of an office that New did not make, and of any numbers.
func TestEnds(t *testing.T) {
	numbers := []int{math.MinInt, -1, 0, 3, 4, 999, 1000, math.MaxInt}
	for _, o := range []*post.Office{nil, {}, post.New(), after(t, "open 0", "open 999")} {
		for _, key := range numbers {
			for _, m := range numbers {
				o.Put(key, m)
				o.Take(key, m)
			}
			o.Waiting(key)
			o.Close(key)
			o.Open(key)
		}
		o.Copy().Keys()
	}
	var o post.Office
	if o.Put(1, 1) != api.ErrNone || o.Close(1) != api.ErrNone || o.Open(1) != api.OK || o.Put(1, 1) != api.OK || shown(&o) != "1: 0 1 0 0; " {
		t.Errorf("%s", shown(&o))
	}
}
