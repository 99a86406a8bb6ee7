package sheet_test

import (
	"fmt"
	"strings"
	"testing"

	"colloquy/api"
	"colloquy/sheet"
	"colloquy/start"
)

func says(t *testing.T, text, want string) {
	t.Helper()
	got, err := sheet.Run(text)
	if got != want || err != api.OK {
		t.Errorf("%q says %q, %d, not %q", text, got, err, want)
	}
}

// size is how many words the first world has.
func size() int {
	n := 0
	for _, t := range start.World().L {
		n += 3 + len(t.F) + (len(t.B)+3)/4
	}
	return n
}

// P28.1: how long a text may be.
func TestLength(t *testing.T) {
	says(t, "", "")
	says(t, "#"+strings.Repeat("x", api.MaxSheet-1), "")
	for _, text := range []string{strings.Repeat("x", api.MaxSheet+1), "check\n" + strings.Repeat(" ", api.MaxSheet)} {
		if said, err := sheet.Run(text); said != "" || err != api.ErrBig {
			t.Errorf("%q, %d", said, err)
		}
	}
}

// P28.1: the first world, field by field.
func TestFirstWorld(t *testing.T) {
	says(t, "check", "ok\n")
	says(t, "run 200 5 5 5 5", "3 0 1 -\n") // no frame
	says(t, fmt.Sprintf("run %d 5 0 0 0\nrun %d 5 0 0 0", size(), size()-1), "0 0 0 -\nerror 6\n")
	for at, x := range start.World().L {
		// a place that there is not makes it none: so each field is found, and none behind the last
		for i := range x.F {
			says(t, fmt.Sprintf("set %d %d @23\ncheck", at, i), "error 5\n")
		}
		says(t, fmt.Sprintf("set %d %d @23\ncheck", at, len(x.F)), "error 7\nok\n")
	}
	says(t, "thing 7 1 @24\ncheck\nthing 7 1\ncheck", "error 5\nok\n") // the next places are 23, 24
}

// P28.2: lines and words.
func TestLines(t *testing.T) {
	for _, x := range [][2]string{
		{"check\ncheck\n", "ok\nok\n"},
		{"check\ncheck", "ok\nok\n"},
		{"\n\n  \n#\n# check\n#check\n  # x\ncheck", "ok\n"},
		{"   check   ", "ok\n"},
		{"check #", "error 7\n"},
		{"\tcheck", "error 7\n"},
		{"check\t", "error 7\n"},
		{"check\r\n", "error 7\n"},
		{"Check", "error 7\n"},
		{"checks", "error 7\n"},
		{"x#", "error 7\n"},
		{"\x00", "error 7\n"},
		{"\xff\xfe", "error 7\n"},
		{"check 1", "error 7\n"},
		{"new 1", "error 7\n"},
		{"new", ""},
		{"error 7", "error 7\n"},
	} {
		says(t, x[0], x[1])
	}
}

// P28.2: lines that are none; nothing happens by them.
func TestNone(t *testing.T) {
	for _, line := range []string{
		"thing", "thing 7", "thing 7 0", "thing 7 3", "thing 7 4", "thing -7 1", "thing 7 -1", "thing x 1", "thing 7 1 x", "thing 7 1 @", "thing 7 1 @-1", "thing 7 1 -", "thing 7 1 --1", "thing 7 1 -@1", "thing 7 1 1 @@1", "thing 1234567890 1", "thing 7 1 1234567890", "thing 7 1 -1234567890", "thing 7 1 @1234567890", "thing 7 1 +1", "thing 7 1 1.0", "thing @7 1",
		"bytes", "bytes 8", "bytes 8 a b", "bytes -8 a", "bytes x a", "bytes @8 a",
		"code", "code x", "code -1", "code 11 self", "code 11 self 0", "code 11 self 0 0 pop", "code 11 self 0 256", "code 11 self 256 0", "code 11 self -1 0", "code 11 nop 0 0", "code 11 1 0 0", "code 11 Self 0 0", "code 11 self @0 0", "code 11" + strings.Repeat(" self 0 0", 61),
		"set", "set 22", "set 22 0", "set 22 0 1 1", "set 22 1 1", "set 23 1 1", "set 24 0 1", "set 0 0 1", "set 19 0 1", "set -1 0 1", "set 22 -1 1", "set 22 0 x", "set 22 0 @", "set 999999999 0 1", "set 22 999999999 1", "set @22 0 1",
		"proc", "proc 1", "proc 1 2 3", "proc -1 2", "proc 1 -2", "proc x 1", "proc 1 @2",
		"run", "run 1 2 3 4", "run 1 2 3 4 5 6", "run 1 2 3 4 101", "run -1 2 3 4 5", "run 1 -2 3 4 5", "run 1 2 -3 4 5", "run 1 2 3 -4 5", "run 1 2 3 4 -5", "run x 2 3 4 5", "run 1 2 3 4 1234567890",
	} {
		says(t, fmt.Sprintf("thing 7 1 5\n%s\ncheck\nrun %d 5 0 0 1\nrun %d 5 0 0 1", line, size()+4, size()+3), "error 7\nok\n0 0 0 -\nerror 6\n")
	}
}

// P28.2: things, and how many there may be.
func TestThings(t *testing.T) {
	words := func(line string, n int) {
		t.Helper()
		says(t, fmt.Sprintf("%s\ncheck\nrun %d 5 0 0 0\nrun %d 5 0 0 0", line, size()+n, size()+n-1), "ok\n0 0 0 -\nerror 6\n")
	}
	words("thing 7 1", 3)
	words("thing 016 002 @23 -5 0 @0", 7)
	words("thing 7 1 536870911 -536870912", 5)
	words("thing 7 1"+strings.Repeat(" 1", 60), 63)
	words("bytes 8 -", 3)
	words("bytes 8 --", 4)
	words("bytes 8 #x@\xff", 4)
	words("bytes 8 "+strings.Repeat("x", 200), 53)
	words("code 11", 3)
	words("code 11 self 0 0", 4)
	words("code 11 outer 255 255 frame 000 000", 5)
	words("code 11"+strings.Repeat(" self 0 0", 60), 48)
	words("code 11"+strings.Repeat(" ", 90), 3)
	words("set 22 0 536870911", 0)
	words("thing 7 1 1\nset 23 0 @23", 4)
	words("thing 7 1\nset 7 0 @1\nnew", 0)
	for _, line := range []string{"thing 23 1 1", "thing 7 1 536870912", "thing 7 1 -536870913", "thing 7 1 @24", "thing 24 1", "thing 7 1" + strings.Repeat(" 1", 61), "bytes 23 x", "bytes 8 " + strings.Repeat("x", 201), "code 50", "proc 24 0", "proc 0 24", "set 22 0 999999999", "set 9 4 0"} {
		says(t, line+"\ncheck\nrun 1000 5 0 0 0\nrun 1 5 0 0 0\nnew\ncheck", "error 5\nerror 5\nerror 5\nok\n")
	}
	full := strings.Repeat("thing 7 1\n", 400-23)
	says(t, full+"check", "ok\n")
	says(t, full+"thing 7 1\nbytes 8 x\ncode 11 self 0 0\ncheck\nset 23 0 1\nset 22 0 1", "error 2\nerror 2\nerror 2\nok\nerror 7\n")
	says(t, full+"thing 7\nbytes 8\ncode 11 x\nthing 7 1 1", "error 7\nerror 7\nerror 7\nerror 2\n")
	says(t, full+"new\nthing 7 1\ncheck", "ok\n")
}

// program is a sheet in which 65 is told again and again, by a method with the primitive 56.
const program = `
# names and methods
bytes 9 put
code 11 self 0 0 ret 0 0
thing 11 1 1 1 56 @24
thing 7 1 @23 @25
set 3 1 @26
# the main method: nil put: 65
code 11 self 0 0 int 193 0 send 0 1 pop 0 0 jump 0 0
thing 11 1 0 0 0 @27 @23
thing 12 1 @0 0 0 @28 @0 @0 @0 @0 @0 @0 @0 @0 @0 @0 @0 @0 @0 @0 @0 @0 @0 @0
thing 14 1 @29 5
proc 30 29
check
`

// P28.2: what is run.
func TestRun(t *testing.T) {
	says(t, program+"run 1000 5 0 0 100\nrun 1000 5 3 0 1\nrun 1000 5 8 0 1\nrun 1000 5 2 9 4\nrun 1000 5 5 9 100\nrun 1000 5 5 9 0",
		"ok\n0 0 0 -\n0 0 3 41\n0 0 8 4141\n0 0 8 4141\n0 0 500 "+strings.Repeat("41", 100)+"\n0 0 0 -\n")
	// the world stays as it is, and what is told has two digits a byte
	says(t, program+"set 22 0 3\nrun 1000 5 3 0 1\ncode 11 self 0 0 int 129 0 send 0 1 int 143 0 send 0 1 int 255 0 send 0 1 pop 0 0 pop 0 0\nset 28 3 @31\nrun 1000 5 99 0 1",
		"ok\n0 0 3 41\n3 0 9 010f7f\n")
	// ended, with a number
	says(t, program+"set 25 2 58\nrun 1000 5 90 0 1\nset 25 2 1\nset 3 1 @0\nrun 1000 5 90 0 1", "ok\n1 65 3 -\n3 0 3 -\n")
	// it rests
	says(t, program+"code 11\nset 28 3 @31\nrun 1000 5 90 5 1", "ok\n2 0 1 -\n")
	// no room, whatever is collected; collected, it is enough
	says(t, program+"code 11 block 0 0 pop 0 0 jump 0 0\nset 28 3 @31\nrun 300 5 90 0 1\nrun 300 5 9 500 100", "ok\n4 0 31 -\n0 0 900 -\n")
	// far numbers
	says(t, program+"run 999999999 999999999 999999999 999999999 1", "ok\n0 0 2000 "+strings.Repeat("41", 400)+"\n")
	says(t, program+"run 0 5 1 1 1\nrun 65536 0 1 1 1", "ok\nerror 6\n0 0 1 -\n")
}

// P28.3: how much lines say together.
func TestMost(t *testing.T) {
	const most = 1 << 20
	text := program + "code 11 self 0 0" + strings.Repeat(" int 193 0 send 0 1", 28) + " pop 0 0 jump 0 0\nset 28 3 @31\n"
	said := "ok\n"
	one := "0 0 8631 " + strings.Repeat("41", api.MaxText) + "\n"
	for len(said)+len(one) <= most {
		text += "run 1000 5 137 0 63\n"
		said += one
	}
	says := func(what, text, want string) {
		t.Helper()
		if got, err := sheet.Run(text); err != api.OK || got != want {
			t.Errorf("%s: %d bytes, not %d, error %d", what, len(got), len(want), err)
		}
	}
	// behind the line that would say more nothing is said, be it short
	says("a long line more", text+"run 1000 5 137 0 63\nx\n", said)
	// up to the last byte that may be
	for (most-len(said))%8 != 0 {
		text += "check\n"
		said += "ok\n"
	}
	for len(said) < most {
		text += "x\n"
		said += "error 7\n"
	}
	if len(said) != most {
		t.Fatalf("%d bytes", len(said))
	}
	says("a short line more", text+"#\nset 22 0 1\ncheck\nx\n", said)
}

// P28.3: a sheet cut behind a line says the beginning of what the whole says.
func TestCut(t *testing.T) {
	text := program + "run 1000 5 3 0 1\nxx\nset 22 0 1\nrun 100 5 1 1 1\nthing 99 1\ncheck\nnew\ncheck\n"
	whole, _ := sheet.Run(text)
	last := ""
	for i := range len(text) + 1 {
		if i > 0 && text[i-1] != '\n' {
			continue
		}
		said, err := sheet.Run(text[:i])
		if err != api.OK || !strings.HasPrefix(whole, said) || !strings.HasPrefix(said, last) {
			t.Errorf("%q says %q", text[:i], said)
		}
		last = said
	}
	if last != whole || whole != "ok\n0 0 3 41\nerror 7\nerror 6\nerror 5\nok\n" {
		t.Errorf("%q", whole)
	}
}
