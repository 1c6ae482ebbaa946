package mark

import (
	"strings"

	"treenail/api"
)

type escape struct {
	meant   rune
	written string
}

var escapes = [4]escape{
	{'<', "&lt;"},
	{'>', "&gt;"},
	{'&', "&amp;"},
	{'"', "&quot;"},
}

// A byte from 128 on never is a plain one, whichever rune range makes of it: so these tell of runes what holds of bytes.

func plain(r rune) bool { return r >= 32 && r <= 126 || r == '\n' }

func letter(r rune) bool { return r >= 'a' && r <= 'z' }

func ofName(r rune) bool { return letter(r) || r >= '0' && r <= '9' || r == '-' }

// written is how a plain byte is written.
func written(r rune) string {
	for _, e := range escapes {
		if e.meant == r {
			return e.written
		}
	}
	return string(r)
}

// meant is the byte that the first bytes of a text stand for, and how many they are: 0, if they stand for none.
func meant(s string) (byte, int) {
	if s[0] == '&' {
		for _, e := range escapes {
			if strings.HasPrefix(s, e.written) {
				return byte(e.meant), len(e.written)
			}
		}
		return 0, 0
	}
	if s[0] == '<' || !plain(rune(s[0])) {
		return 0, 0
	}
	return s[0], 1
}

// unlike tells whether there are not too many attributes, and no two of one name.
func unlike(attrs []Attr) bool {
	if len(attrs) > api.MaxKids {
		return false
	}
	for i, a := range attrs {
		for _, b := range attrs[:i] {
			if a.Name == b.Name {
				return false
			}
		}
	}
	return true
}
