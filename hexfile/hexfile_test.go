package hexfile_test

import (
	"bytes"
	"reflect"
	"strings"
	"testing"

	"pintle/api"
	"pintle/hexfile"
)

const (
	last  = ":00000001FF\n"
	entry = ":0400000500000000F7\n"
)

func seg(addr uint32, n int) api.Seg {
	b := make([]byte, n)
	for i := range b {
		b[i] = byte(i*7 + n + int(addr>>12))
	}
	return api.Seg{Addr: addr, Data: b}
}

// P40.1, P40.2
func TestWrite(t *testing.T) {
	for i, x := range []struct {
		l     []api.Seg
		entry uint32
		want  string
	}{
		{nil, 0, entry + last}, {nil, 0xcafe1234, ":04000005CAFE1234E9\n" + last},
		{[]api.Seg{{Addr: 0, Data: []byte{0xab}}}, 0, ":01000000AB54\n" + entry + last},
		{[]api.Seg{{Addr: 0x0100, Data: []byte{0x21, 0x46, 0x01, 0x36, 0x01, 0x21, 0x47, 0x01, 0x36, 0x00, 0x7e, 0xfe, 0x09, 0xd2, 0x19, 0x01, 0x55}}}, 0, ":10010000214601360121470136007EFE09D2190140\n:010110005599\n" + entry + last},
		{[]api.Seg{{Addr: 0x2fffe, Data: []byte{1, 2, 3}}, {Addr: 0x30002, Data: []byte{4}}, {Addr: 0x40000, Data: []byte{5}}}, 0, ":020000040002F8\n:02FFFE000102FE\n:020000040003F7\n:0100000003FC\n:0100020004F9\n:020000040004F6\n:0100000005FA\n" + entry + last},
		{[]api.Seg{{Addr: 1<<32 - 1, Data: []byte{9}}}, 0, ":02000004FFFFFC\n:01FFFF0009F8\n" + entry + last},
	} {
		got, err := hexfile.Write(x.l, x.entry)
		if got != x.want || err != api.OK {
			t.Errorf("%d: %q %v", i, got, err)
		}
	}
	for i, x := range []struct {
		l   []api.Seg
		err api.Errno
	}{
		{[]api.Seg{{Addr: 5}}, api.ErrArg}, {[]api.Seg{seg(1<<32-1, 2)}, api.ErrArg}, {[]api.Seg{seg(0, 4), seg(4, 4)}, api.ErrArg}, {[]api.Seg{seg(0, 4), seg(5, 4)}, api.OK}, {[]api.Seg{seg(8, 4), seg(0, 4)}, api.ErrArg}, {[]api.Seg{seg(0, 4), seg(2, 4)}, api.ErrArg},
		{[]api.Seg{seg(0, 1<<20)}, api.OK}, {[]api.Seg{seg(0, 1<<20+1)}, api.ErrLong}, {[]api.Seg{seg(0, 1<<20), seg(1<<21, 1)}, api.ErrLong}, {[]api.Seg{seg(0, 1<<20+1), seg(0, 1)}, api.ErrArg}, {[]api.Seg{seg(1<<32-1<<20, 1<<20)}, api.OK},
	} {
		got, err := hexfile.Write(x.l, 0)
		if err != x.err || got == "" != (err != api.OK) {
			t.Error(i, err)
		}
	}
}

// P40.3
func TestParseWrong(t *testing.T) {
	good, _ := hexfile.Write([]api.Seg{seg(0x10, 20)}, 0)
	for i, x := range []struct {
		s   string
		err api.Errno
	}{
		{strings.Repeat("x", api.MaxHex+1), api.ErrLong}, {strings.Repeat("x", api.MaxHex), api.ErrForm}, {"", api.ErrForm}, {"\n", api.ErrForm}, {entry, api.ErrForm}, {last, api.ErrForm}, {last + entry, api.ErrForm}, {entry + last + last, api.ErrForm}, {entry + last + "\n", api.ErrForm}, {entry + last[:len(last)-1], api.ErrForm}, {entry + entry + last, api.ErrForm},
		{entry + ":00000001ff\n", api.ErrForm}, {entry + ";00000001FF\n", api.ErrForm}, {entry + ":00000001FF\r\n", api.ErrForm}, {entry + ":0000000 FF\n", api.ErrForm}, {entry + ":00000001F\n", api.ErrForm}, {entry + ":000001FF\n", api.ErrForm}, {entry + ":01000001FF\n", api.ErrForm}, {entry + ":0000000100FF\n", api.ErrForm}, {":\n" + entry + last, api.ErrForm},
		{entry + ":00000001FE\n", api.ErrSum}, {entry + ":00000001FE\n:\n", api.ErrForm}, {entry + ":0000000200\n", api.ErrSum}, {entry + ":00000002FE\n", api.ErrForm}, {":0400000500000000F8\n" + last, api.ErrSum}, {":040001050000000000\n" + last, api.ErrSum}, {":0400010500000000F6\n" + last, api.ErrForm}, {":050000050000000000F6\n" + last, api.ErrForm},
		{":020000040000FA\n" + entry + last, api.ErrForm}, {":0000000000\n" + entry + last, api.ErrForm}, {":020000040001F9\n" + entry + last, api.ErrForm}, {":0101000001FD\n:0101010002FB\n" + entry + last, api.ErrForm}, {":0101010002FB\n:0101000001FD\n" + entry + last, api.ErrForm}, {":0100000009F6\n" + last, api.ErrForm}, {":0400000300000000F9\n" + good, api.ErrForm},
		{strings.Replace(good, "\n", "", 1), api.ErrForm}, {good + good, api.ErrForm}, {strings.Repeat(":0000000000\n", 300000), api.ErrForm},
	} {
		l, n, err := hexfile.Parse(x.s)
		if l != nil || n != 0 || err != x.err {
			t.Error(i, l, n, err)
		}
	}
	far := ":02000004FFFFFC\n:01FFFF0009F8\n:020000040000FA\n:0100000009F6\n" + entry + last
	if l, n, err := hexfile.Parse(far); l != nil || n != 0 || err != api.ErrForm {
		t.Error(l, n, err)
	}
	if l, n, err := hexfile.Parse(":FF000000" + strings.Repeat("00", 255) + "01\n" + entry + last); l != nil || n != 0 || err != api.ErrForm {
		t.Error(l, n, err)
	}
}

func samples() [][]api.Seg {
	return [][]api.Seg{nil, {seg(0, 1)}, {seg(0, 16)}, {seg(3, 17), seg(21, 40)}, {seg(0xfff0, 40)}, {seg(0xfffe, 1), seg(0x10000, 5)}, {seg(0x1fff8, 16), seg(0x5fff9, 1<<17+50)}, {seg(1<<32-70000, 70000)}, {seg(0, 1<<20)}}
}

// P40.3, P40.4
func TestThereAndBack(t *testing.T) {
	for i, l := range samples() {
		for _, entry := range []uint32{0, 1<<32 - 1, 0x12345678} {
			s, err := hexfile.Write(l, entry)
			got, n, bad := hexfile.Parse(s)
			if !reflect.DeepEqual(got, l) || n != entry || err != api.OK || bad != api.OK {
				t.Fatal(i, len(got), n, err, bad)
			}
			for k, x := range got {
				kept := bytes.Clone(x.Data)
				for o, y := range got {
					if o != k {
						_ = append(y.Data, 77, 77, 77, 77)
					}
				}
				if !bytes.Equal(x.Data, kept) {
					t.Error("shared")
				}
			}
		}
	}
}

// P40.5
func TestSpoilt(t *testing.T) {
	for _, l := range samples()[:6] {
		s, _ := hexfile.Write(l, 0x1234abcd)
		for i := range s {
			if s[i] == ':' || s[i] == '\n' {
				continue
			}
			for _, d := range "0123456789ABCDEFabcdef" {
				if byte(d) == s[i] {
					continue
				}
				if _, _, err := hexfile.Parse(s[:i] + string(d) + s[i+1:]); err == api.OK {
					t.Fatal(i, string(d))
				}
			}
		}
	}
}
