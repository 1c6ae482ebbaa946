package mark

import (
	"strings"

	"treenail/api"
)

func writeOpen(m Mark) (string, api.Errno) {
	if !Name(m.Name) || m.Text != "" || !unlike(m.Attrs) {
		return "", api.ErrForm
	}
	var out strings.Builder
	out.WriteString("<" + m.Name)
	for _, a := range m.Attrs {
		value, err := Escape(a.Value)
		if err != api.OK || !Name(a.Name) {
			return "", api.ErrForm
		}
		out.WriteString(" " + a.Name + "=\"" + value + "\"")
	}
	out.WriteString(">")
	return out.String(), api.OK
}

func writeClose(m Mark) (string, api.Errno) {
	if !Name(m.Name) || m.Text != "" || len(m.Attrs) > 0 {
		return "", api.ErrForm
	}
	return "</" + m.Name + ">", api.OK
}

func writeText(m Mark) (string, api.Errno) {
	if m.Text == "" || m.Name != "" || len(m.Attrs) > 0 {
		return "", api.ErrForm
	}
	return Escape(m.Text)
}
