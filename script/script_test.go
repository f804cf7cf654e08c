package script

import (
	"math"
	"math/rand"
	"slices"
	"strings"
	"testing"

	"claviger/api"
)

const key = "AES-128 00000000000000000000000000000000"

var good = []struct {
	s    Step
	line string
}{
	{Step{Verb: "put", Name: "a", Format: 1, Text: key}, "put a wrapped - " + key}, {Step{Verb: "put", Name: "A~!", Format: 2, Bytes: "\x01\xab", Text: key + " 5=61 @4B30,42,3030,45"}, "put A~! keyed 01AB " + key + " 5=61 @4B30,42,3030,45"},
	{Step{Verb: "add", Name: "-", Format: 2, Bytes: "x"}, "add - keyed 78"}, {Step{Verb: "add", Name: "wrapped", Format: 1, Bytes: "\x00"}, "add wrapped wrapped 00"}, {Step{Verb: "get", Name: "a"}, "get a"}, {Step{Verb: "export", Name: "a"}, "export a"}, {Step{Verb: "drop", Name: strings.Repeat("n", 100)}, "drop " + strings.Repeat("n", 100)}, {Step{Verb: "check", Name: "check"}, "check check"},
	{Step{Verb: "move", Name: "a", To: "b"}, "move a b"}, {Step{Verb: "rekey", Bytes: "ab"}, "rekey 6162"}, {Step{Verb: "list"}, "list"},
}

// P49.1
func TestWords(t *testing.T) {
	for format, word := range map[int]string{api.Wrapped: "wrapped", api.Keyed: "keyed"} {
		if Word(format) != word || Format(word) != format {
			t.Errorf("%d and %q", format, word)
		}
	}
	for _, format := range []int{0, 3, -1, math.MaxInt} {
		if Word(format) != "" {
			t.Errorf("Word(%d)", format)
		}
	}
	for _, word := range []string{"", "Wrapped", "keyed ", "x"} {
		if Format(word) != 0 {
			t.Errorf("Format(%q)", word)
		}
	}
}

// P49.2, P49.4
func TestSteps(t *testing.T) {
	for _, c := range good {
		if got := Text(c.s); got != c.line {
			t.Errorf("Text(%v) = %q", c.s, got)
		}
		if got, err := Parse(c.line); got != c.s || err != api.OK {
			t.Errorf("Parse(%q) = %v, %d", c.line, got, err)
		}
	}
}

// P49.1, P49.2
func TestInvalidSteps(t *testing.T) {
	for _, c := range good {
		others := []Step{c.s, c.s, c.s, c.s, c.s, c.s}
		others[0].Verb += "x"
		others[1].Name += " "
		others[2].To += "\x7f"
		others[3].Format += 5
		others[4].Text += " "
		others[5].Verb = ""
		if c.s.Bytes == "" && c.s.Verb != "put" {
			other := c.s
			other.Bytes = "x"
			others = append(others, other)
		}
		for _, s := range others {
			if got := Text(s); got != "" {
				t.Errorf("Text(%v) = %q", s, got)
			}
		}
	}
	for _, s := range []Step{
		{}, {Verb: "get"}, {Verb: "get", Name: strings.Repeat("n", 101)}, {Verb: "get", Name: "a b"}, {Verb: "get", Name: "\x20"}, {Verb: "get", Name: "\x7f"}, {Verb: "get", Name: "\u00e9"}, {Verb: "get", Name: "a", To: "b"}, {Verb: "get", Name: "a", Format: 1}, {Verb: "get", Name: "a", Text: key}, {Verb: "move", Name: "a"}, {Verb: "move", To: "a"}, {Verb: "move", Name: "a", To: "b\n"}, {Verb: "rekey"}, {Verb: "rekey", Name: "a", Bytes: "x"}, {Verb: "list", Name: "a"}, {Verb: "list", Bytes: "x"}, {Verb: "List"},
		{Verb: "add", Name: "a", Format: 1}, {Verb: "add", Name: "a", Bytes: "x"}, {Verb: "add", Name: "a", Format: 1, Bytes: "x", Text: key}, {Verb: "put", Name: "a", Format: 1}, {Verb: "put", Name: "a", Text: key}, {Verb: "put", Format: 1, Text: key}, {Verb: "put", Name: "a", Format: 1, Text: "AES-128"}, {Verb: "put", Name: "a", To: "b", Format: 1, Text: key}, {Verb: "rekey", Bytes: strings.Repeat("x", 20000)}, {Verb: "rekey", Bytes: strings.Repeat("x", 1000000)},
	} {
		if got := Text(s); got != "" {
			t.Errorf("Text(%.100v) = %.100q", s, got)
		}
	}
}

// P49.2
func TestParseOther(t *testing.T) {
	for _, line := range []string{
		"", " ", "x", "get", "get ", "get  a", " get a", "get a ", "get a b", "Get a", "get\ta", "get " + strings.Repeat("n", 101), "get a\n", "list ", "list a", "move a", "move a ", "move  b", "move a b c", "rekey", "rekey ", "rekey -", "rekey 6", "rekey 6g", "rekey ab", "rekey 61 62", "get \u00e9",
		"add a wrapped", "add a wrapped -", "add a wrapped ", "add a Wrapped 61", "add a  61", "add a 1 61", "add wrapped 61", "add a wrapped 61 ", "add a wrapped 61 x", "put a wrapped -", "put a wrapped - ", "put a wrapped - AES-128", "put a wrapped  " + key, "put a wrapped " + key, "put a wrapped - " + key + " ", "put a wrapped -- " + key, "put a - " + key, "put a keyed 0 " + key, "put  wrapped - " + key, "put a wrapped - " + key + " 0=61",
	} {
		if s, err := Parse(line); s != (Step{}) || err != api.ErrForm {
			t.Errorf("Parse(%q) = %v, %d", line, s, err)
		}
	}
	longest := "rekey " + strings.Repeat("61", (api.MaxLine-6)/2)
	if s, err := Parse(longest); s.Bytes == "" || err != api.OK || Text(s) != longest || len(longest) != api.MaxLine {
		t.Errorf("Parse of the longest line: %d", err)
	}
	for _, line := range []string{longest + "6", longest + "61", strings.Repeat(" ", api.MaxLine+1)} {
		if s, err := Parse(line); s != (Step{}) || err != api.ErrSize {
			t.Errorf("Parse of %d characters: %d", len(line), err)
		}
	}
	if _, err := Parse(strings.Repeat(" ", api.MaxLine)); err != api.ErrForm {
		t.Errorf("Parse of blanks: %d", err)
	}
}

// P49.3
func TestLines(t *testing.T) {
	all := ""
	var steps []Step
	for _, c := range good {
		all += c.line + "\n"
		steps = append(steps, c.s)
	}
	for _, c := range []struct {
		t     string
		want  []Step
		fault api.Fault
	}{
		{"", nil, api.Fault{}}, {"list\n", []Step{{Verb: "list"}}, api.Fault{}}, {all, steps, api.Fault{}}, {strings.Repeat("list\n", 200), slices.Repeat([]Step{{Verb: "list"}}, 200), api.Fault{}},
		{"list", nil, api.Fault{Code: api.ErrForm, At: 1}}, {"list\nlist", nil, api.Fault{Code: api.ErrForm, At: 2}}, {"x\ny\n ", nil, api.Fault{Code: api.ErrForm, At: 3}}, {strings.Repeat("list\n", 300) + "x", nil, api.Fault{Code: api.ErrForm, At: 301}}, {strings.Repeat("list\n", 201), nil, api.Fault{Code: api.ErrFull, At: 201}}, {strings.Repeat("x\n", 500), nil, api.Fault{Code: api.ErrFull, At: 201}},
		{"\n", nil, api.Fault{Code: api.ErrForm, At: 1}}, {"list\n\n", nil, api.Fault{Code: api.ErrForm, At: 2}}, {"list\nlist \nx\n", nil, api.Fault{Code: api.ErrForm, At: 2}}, {"list\r\n", nil, api.Fault{Code: api.ErrForm, At: 1}}, {"list\n" + strings.Repeat("x", api.MaxLine+1) + "\nx\n", nil, api.Fault{Code: api.ErrSize, At: 2}}, {strings.Repeat("list\n", 199) + "x\n", nil, api.Fault{Code: api.ErrForm, At: 200}},
	} {
		if got, fault := Lines(c.t); !slices.Equal(got, c.want) || fault != c.fault {
			t.Errorf("Lines(%.60q) = %v, %v", c.t, got, fault)
		}
	}
}

// P49.4
func TestChangedLines(t *testing.T) {
	r := rand.New(rand.NewSource(1))
	for range 20000 {
		b := []byte(good[r.Intn(len(good))].line)
		for range 1 + r.Intn(2) {
			b[r.Intn(min(len(b), 40))] = " -aA0=@,\n"[r.Intn(9)]
		}
		if s, err := Parse(string(b)); err == api.OK && Text(s) != string(b) {
			t.Fatalf("Text of Parse of %q", b)
		}
	}
}
