package shell_test

import (
	"strconv"
	"strings"
	"testing"

	"pintle/api"
	"pintle/eval"
	"pintle/family"
	"pintle/graph"
	"pintle/image"
	"pintle/listing"
	"pintle/mcc"
	"pintle/report"
	"pintle/safe"
	"pintle/shell"
)

var target = api.Target{Flash: 65536, FlashSize: 1 << 20, RAM: 536870912, RAMSize: 1 << 18}

func run(t *testing.T, lines ...string) string {
	t.Helper()
	s, err := shell.Run(strings.Join(lines, "\n"))
	if err != api.OK {
		t.Fatal(lines, err)
	}
	return s
}

// P38.1: what is no line, and what is too long.
func TestWrong(t *testing.T) {
	for _, line := range []string{
		" ", "compile ", " compile", "compile x", "Compile", "compil", "family", "family 1", "family 1 2 3", "family 1  2", "family 01 2", "family 1 02", "family -1 2", "family +1 2", "family 1 4294967296", "family 18446744073709551616 1", "family x 1", "one 4294967296 1", "one 1", "one 1 18446744073709551616",
		"target 1 2 3", "target 1 2 3 4 5", "target 1 2 3 4294967296", "target 4294967296 2 3 4", "target 1 4294967296 3 4", "target 1 2 4294967296 4", "target 1 2 3 00", "options", "options ", "options uw", "options ww", "options x", "options --", "options -w", "options w-", "options w u", "options W", "eval", "eval 1 2", "run", "run -1", "watch", "watch 0x1", "report 1", "nodes 1", "list", "list 4294967296", "list -1", "nodes\r", "\t", "#", "run 1.",
	} {
		for _, s := range []string{line, "compile\n" + line, line + "\n", "compile\n" + line + "\ncompile\n"} {
			if out, err := shell.Run(s); out != "" || err != api.ErrForm {
				t.Errorf("%q: %q %v", s, out, err)
			}
		}
	}
	for _, x := range []struct {
		s   string
		err api.Errno
	}{
		{"", api.OK}, {"\n", api.OK}, {strings.Repeat("\n", 2000), api.OK}, {strings.Repeat("\n", 2001), api.ErrLong}, {strings.Repeat("x\n", 2001), api.ErrLong}, {strings.Repeat("x", 1<<20), api.ErrForm}, {strings.Repeat("x", 1<<20+1), api.ErrLong}, {strings.Repeat("\n", 2000) + "x", api.ErrForm},
	} {
		if out, err := shell.Run(x.s); out != "" || err != x.err {
			t.Errorf("%d: %q %v", len(x.s), out, err)
		}
	}
}

// P38.2: what lines tell.
func TestLines(t *testing.T) {
	for _, x := range [][2]string{
		{"", ""}, {"family 5 4", "nodes 4\n"}, {"family 18446744073709551615 4294967295", "nodes 12\n"}, {"family 5 0\n", "nodes 0\n"}, {"one 0 5", "none\n"}, {"one 15 5", "none\n"}, {"one 4294967295 5", "none\n"}, {"one 14 5", "nodes 1\n"},
		{"target 1 2 3 4", "target\n"}, {"target 0 4294967295 0 0", "target\n"}, {"options -", "options\n"}, {"options wufor", "options\n"}, {"options fr", "options\n"}, {"options o", "options\n"},
		{"run 1", "none\n"}, {"watch 1", "none\n"}, {"report", "none\n"}, {"list 5", "none\n"}, {"nodes", ""}, {"\n\nnodes\n\n", ""},
		{"target 1 2 3 4\ncompile", "target\nerror 1\n"}, {"target 65536 4 536870912 262144\ncompile\nrun 1", "target\nerror 14\nnone\n"}, {"target 65536 1048576 536870912 4\nfamily 3 5\ncompile", "target\nnodes 5\nerror 13\n"},
	} {
		if got := run(t, x[0]); got != x[1] {
			t.Errorf("%q: %q", x[0], got)
		}
	}
	if got := run(t, "eval 9"); got != numbers(family.Input(family.Net(0, 0), 9)) {
		t.Error(got)
	}
}

func numbers(l []int8) string {
	s := "out"
	for _, n := range l {
		s += " " + strconv.Itoa(int(n))
	}
	return s + "\n"
}

// P38.2: lines held against what the layers tell.
func TestCompiled(t *testing.T) {
	for seed := range uint64(12) {
		g := family.Net(seed, 9)
		b, _ := graph.Write(g)
		code, r, _ := mcc.Compile(b, target, api.Options{Wide: true, Over: true})
		m, _ := image.Parse(code)
		x := family.Input(g, 77)
		out, _ := eval.Run(g, x)
		w, _ := safe.Run(code, x)
		watch := "watch"
		for _, n := range []int{w.Steps, w.Loads, w.Stores, int(w.Deep), w.Wrong} {
			watch += " " + strconv.Itoa(n)
		}
		var words []uint32
		for _, s := range m.Segs {
			for i := 0; s.Addr == m.Text.Addr && i < len(s.Data); i += 4 {
				words = append(words, uint32(s.Data[i])|uint32(s.Data[i+1])<<8|uint32(s.Data[i+2])<<16|uint32(s.Data[i+3])<<24)
			}
		}
		nodes, _ := report.Nodes(g)
		n := strconv.FormatUint(seed, 10)
		got := run(t, "family "+n+" 9", "options wo", "compile", "run 77", "eval 77", "watch 77", "report", "nodes", "list 0", "list 7", "list 4294967295", "one 0 1", "run 77")
		want := "nodes 9\noptions\ncompiled " + strconv.Itoa(len(code)) + "\n" + numbers(out) + numbers(out) + watch + "\n" + report.Show(r) + nodes + listing.Show(m.Text.Addr, words[:7]) + listing.Show(m.Text.Addr, words) + "none\n" + numbers(out)
		if got != want {
			t.Errorf("%d: %q\n%q", seed, got, want)
		}
	}
}

// P38.1: an image is there no more behind a line that changes something.
func TestChanges(t *testing.T) {
	for _, line := range []string{"family 3 3", "one 5 5", "target 65536 1048576 536870912 262144", "options -", "options w"} {
		for _, ask := range []string{"run 1", "watch 1", "report", "list 1"} {
			got := run(t, "family 3 3", "compile", line, ask, "compile", ask)
			if lines := strings.Split(got, "\n"); lines[3] != "none" || lines[5] == "none" {
				t.Errorf("%q %q: %q", line, ask, got)
			}
		}
	}
	// Each option makes another program of some network, in a target of one's own.
	plain := run(t, "family 6 9", "target 4096 65536 1048576 65536", "options -", "compile", "report", "list 999999")
	for _, o := range []string{"w", "r"} {
		if got := run(t, "family 6 9", "target 4096 65536 1048576 65536", "options "+o, "compile", "report", "list 999999"); got == plain {
			t.Error("the same", o)
		}
	}
	if !strings.Contains(plain, "00001") {
		t.Error(plain)
	}
}

// P38.3
func TestTheSame(t *testing.T) {
	lines := strings.Split(run(t, "one 9 1", "compile", "run 5", "eval 5"), "\n")
	if !strings.HasPrefix(lines[2], "out ") || lines[2] != lines[3] {
		t.Error(lines)
	}
	for op := 1; op <= 14; op++ {
		for seed := range 5 {
			n := strconv.Itoa(seed)
			lines := strings.Split(run(t, "one "+strconv.Itoa(op)+" "+n, "options "+[]string{"-", "w", "ufo", "wufor", "or"}[seed], "compile", "run "+n, "eval "+n), "\n")
			if !strings.HasPrefix(lines[2], "compiled ") || lines[3] != lines[4] {
				t.Error(op, seed, lines)
			}
		}
	}
}
