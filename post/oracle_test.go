package post_test

import (
	"math/rand"
	"slices"
	"testing"

	"treenail/api"
	"treenail/post"
)

// event is what was done without an error: o, c, p or t.
type event struct {
	what   byte
	key, m int
}

// since are the events of a key's box behind its last opening, and whether it is open.
func since(past []event, key int) ([]event, bool) {
	for i := len(past) - 1; i >= 0; i-- {
		if past[i].key == key && past[i].what == 'c' {
			return nil, false
		}
		if past[i].key == key && past[i].what == 'o' {
			return slices.DeleteFunc(slices.Clone(past[i+1:]), func(e event) bool { return e.key != key }), true
		}
	}
	return nil, false
}

// waits is how often a message was put, less how often it was taken.
func waits(past []event, key, m int) int {
	l, _ := since(past, key)
	count := 0
	for _, e := range l {
		if e.m == m && e.what == 'p' {
			count++
		}
		if e.m == m && e.what == 't' {
			count--
		}
	}
	return count
}

// opened are the keys of which a box is open.
func opened(past []event) []int {
	var l []int
	for key := range 1000 {
		if _, ok := since(past, key); ok {
			l = append(l, key)
		}
	}
	return l
}

// read is what the promises say of an event, by the past alone.
func read(past []event, e event) api.Errno {
	_, open := since(past, e.key)
	switch {
	case e.what == 'o' && (e.key < 0 || e.key > 999), (e.what == 'p' || e.what == 't') && (e.m < 0 || e.m > 3):
		return api.ErrArg
	case e.what == 'o' && open:
		return api.ErrSame
	case e.what == 'o' && len(opened(past)) == 8:
		return api.ErrFull
	case e.what != 'o' && !open:
		return api.ErrNone
	case e.what == 'p' && waits(past, e.key, e.m) == 3:
		return api.ErrFull
	case e.what == 't' && waits(past, e.key, e.m) == 0:
		return api.ErrNone
	}
	return api.OK
}

func send(o *post.Office, e event) api.Errno {
	switch e.what {
	case 'o':
		return o.Open(e.key)
	case 'c':
		return o.Close(e.key)
	case 'p':
		return o.Put(e.key, e.m)
	}
	return o.Take(e.key, e.m)
}

// 21.1, 21.2, 21.3: what is told hangs on what was done without an error, by each key apart.
func TestPast(t *testing.T) {
	came := map[string]int{}
	for seed := range 200 {
		r := rand.New(rand.NewSource(int64(seed)))
		keys := []int{-1, 1000}
		for range 10 {
			keys = append(keys, r.Intn(1000))
		}
		o := post.New()
		var past []event
		for range 120 {
			e := event{what: "oooocpppppppppttt"[r.Intn(17)], key: keys[r.Intn(len(keys))]}
			if e.what == 'p' || e.what == 't' {
				e.m = r.Intn(4)
				if r.Intn(20) == 0 {
					e.m = 4 - 5*r.Intn(2)
				}
			}
			want := read(past, e)
			if got := send(o, e); got != want {
				t.Fatalf("%d: %c %d %d: %v, want %v", seed, e.what, e.key, e.m, got, want)
			}
			came[string(e.what)+" "+want.Error()]++
			if want == api.OK {
				past = append(past, e)
			}
			if r.Intn(10) == 0 {
				o = o.Copy()
			}
			for _, key := range keys {
				w, ok := o.Waiting(key)
				_, open := since(past, key)
				for m := range w {
					if ok != open || w[m] != waits(past, key, m) {
						t.Fatalf("%d: Waiting(%d): %v, %v", seed, key, w, ok)
					}
				}
			}
		}
		if got, want := o.Keys(), opened(past); !slices.Equal(got, want) {
			t.Fatalf("%d: Keys: %v, want %v", seed, got, want)
		}
	}
	if len(came) != 13 {
		t.Errorf("%v", came)
	}
	for what, many := range came {
		if many < 50 {
			t.Errorf("%s came only %d times", what, many)
		}
	}
}
