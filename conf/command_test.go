package conf_test

import (
	"encoding/binary"
	"fmt"
	"math"
	"strings"
	"testing"

	"tollgate/api"
	"tollgate/conf"
	"tollgate/wire"
)

func number(n int) string {
	b, _ := wire.Number(n)
	return string(b)
}

func numbers(l ...int) string {
	var s strings.Builder
	for _, n := range l {
		s.WriteString(number(n))
	}
	return s.String()
}

func texts(l ...string) string {
	var s strings.Builder
	for _, x := range l {
		s.WriteString(number(len(x)) + x)
	}
	return s.String()
}

func targetBytes(l ...api.Target) string {
	b := []byte(number(len(l)))
	for _, x := range l {
		b = append(b, texts(x.Addr)...)
		b = binary.BigEndian.AppendUint64(b, math.Float64bits(x.Weight))
	}
	return string(b)
}

// commandBytes are those of any command whose numbers have bytes, right or not.
func commandBytes(c api.Command) string {
	return numbers(int(c.Act), c.Client, c.Seq, c.Expect+1) + texts(c.Host, c.Prefix, c.Pool) + targetBytes(c.Targets...)
}

// shown tells floats by their bits.
func shown(c api.Command) string {
	s := fmt.Sprintf("%d, client %d %d, expect %d, %q %q %q", c.Act, c.Client, c.Seq, c.Expect, c.Host, c.Prefix, c.Pool)
	return s + targetsShown(c.Targets)
}

func targetsShown(l []api.Target) string {
	var s strings.Builder
	for _, x := range l {
		fmt.Fprintf(&s, " %q %x", x.Addr, math.Float64bits(x.Weight))
	}
	return s.String()
}

func wantNoCommand(t *testing.T, what, b string, errno api.Errno) {
	t.Helper()
	if c, e := conf.GetCommand([]byte(b)); e != errno || shown(c) != shown(api.Command{}) {
		t.Errorf("GetCommand, %s: %.300s, error %d; want error %d", what, shown(c), e, errno)
	}
}

// P8.1, P8.5 (E1): each command's bytes, by hand, and back.
func TestCommandBytes(t *testing.T) {
	long := "/" + strings.Repeat("p", api.MaxPrefix-1)
	name := strings.Repeat("n", api.MaxName)
	for _, c := range []struct {
		c     api.Command
		bytes string
	}{
		{putPool("a"), "\x01\x00\x00\x00\x00\x00\x01a\x00"},
		{putPool("a", target("t:80", 1)), "\x01\x00\x00\x00\x00\x00\x01a\x01\x04t:80\x3f\xf0\x00\x00\x00\x00\x00\x00"},
		{putPool("ab", target("t", 0), target("t", 0.1)), "\x01\x00\x00\x00\x00\x00\x02ab\x02\x01t\x00\x00\x00\x00\x00\x00\x00\x00\x01t\x3f\xb9\x99\x99\x99\x99\x99\x9a"},
		{putPool("a", target("t", math.MaxFloat64), target("u", math.SmallestNonzeroFloat64)), "\x01\x00\x00\x00\x00\x00\x01a\x02\x01t\x7f\xef\xff\xff\xff\xff\xff\xff\x01u\x00\x00\x00\x00\x00\x00\x00\x01"},
		{expecting(0, dropPool("a")), "\x02\x00\x00\x01\x00\x00\x01a\x00"},
		{ofClient(1, 1, dropPool("a")), "\x02\x01\x01\x00\x00\x00\x01a\x00"},
		{ofClient(2, 300, expecting(299, putRoute("x.y", "/z", "a"))), "\x03\x02\xac\x02\xac\x02\x03x.y\x02/z\x01a\x00"},
		{ofClient(api.MaxClient, api.MaxNum, expecting(api.MaxNum-1, dropRoute("h", "/"))), "\x04\x20\x80\x80\x80\x80\x80\x20\x80\x80\x80\x80\x80\x20\x01h\x01/\x00\x00"},
		{putRoute(name, long, name), "\x03\x00\x00\x00\x40" + name + "\x80\x01" + long + "\x40" + name + "\x00"},
	} {
		b, e := conf.PutCommand(c.c)
		if e != api.OK || string(b) != c.bytes || c.bytes != commandBytes(c.c) {
			t.Errorf("PutCommand(%.200s): %.300x, error %d; want %.300x", shown(c.c), b, e, c.bytes)
		}
		if got, e := conf.GetCommand([]byte(c.bytes)); e != api.OK || shown(got) != shown(c.c) {
			t.Errorf("GetCommand(%.300x): %.200s, error %d; want %.200s", c.bytes, shown(got), e, shown(c.c))
		}
		for size := range len(c.bytes) {
			wantNoCommand(t, fmt.Sprintf("%x cut to %d bytes", c.bytes, size), c.bytes[:size], api.ErrShort)
		}
		wantNoCommand(t, "a byte behind", c.bytes+"\x00", api.ErrForm)
		wantNoCommand(t, "the same behind", c.bytes+c.bytes, api.ErrForm)
	}
	if c, e := conf.GetCommand(nil); e != api.ErrShort || shown(c) != shown(api.Command{}) {
		t.Errorf("GetCommand(nil): error %d", e)
	}
}

// P8.1: the faults from the left, each also ahead of others behind it.
func TestNoCommandBytes(t *testing.T) {
	const tooBig, tooLong, notShort = "\x81\x80\x80\x80\x80\x20", "\x80\x80\x80\x80\x80\x80", "\x80\x00"
	p := strings.Repeat("p", api.MaxPrefix+1)
	weight := "\x3f\xf0\x00\x00\x00\x00\x00\x00"
	for i := range 4 {
		ahead := "\x01\x01\x01\x01"[:i]
		wantNoCommand(t, fmt.Sprintf("number %d above MaxNum", i), ahead+tooBig, api.ErrLimit)
		wantNoCommand(t, fmt.Sprintf("number %d too long", i), ahead+tooLong, api.ErrLimit)
		wantNoCommand(t, fmt.Sprintf("number %d not the shortest", i), ahead+notShort+tooBig, api.ErrForm)
	}
	for i := range 3 {
		ahead := "\x01\x01\x01\x01" + strings.Repeat("\x01a", i)
		wantNoCommand(t, fmt.Sprintf("text %d above MaxPrefix", i), ahead+"\x81\x01", api.ErrLimit)
		wantNoCommand(t, fmt.Sprintf("text %d above MaxPrefix, all there", i), ahead+"\x81\x01"+p, api.ErrLimit)
		wantNoCommand(t, fmt.Sprintf("text %d of MaxNum bytes", i), ahead+number(api.MaxNum), api.ErrLimit)
		wantNoCommand(t, fmt.Sprintf("text %d of MaxPrefix bytes, one there", i), ahead+"\x80\x01a", api.ErrShort)
		wantNoCommand(t, fmt.Sprintf("text %d of a number not the shortest", i), ahead+notShort, api.ErrForm)
		wantNoCommand(t, fmt.Sprintf("text %d of a number above MaxNum", i), ahead+tooBig, api.ErrLimit)
	}
	ahead := "\x01\x00\x00\x00\x00\x00\x01a"
	for _, c := range []struct {
		what, bytes string
		errno       api.Errno
	}{
		{"more than MaxTargets, none there", ahead + "\x11", api.ErrLimit},
		{"MaxTargets, none there", ahead + "\x10", api.ErrShort},
		{"MaxNum targets", ahead + number(api.MaxNum), api.ErrLimit},
		{"a number of targets not the shortest", ahead + notShort, api.ErrForm},
		{"an address above MaxPrefix", ahead + "\x01\x81\x01", api.ErrLimit},
		{"a second address above MaxPrefix", ahead + "\x02\x01t" + weight + "\x81\x01", api.ErrLimit},
		{"a second address that is cut", ahead + "\x02\x01t" + weight + "\x02t", api.ErrShort},
		{"a weight that is cut", ahead + "\x01\x01t" + weight[:7], api.ErrShort},
		{"no weight", ahead + "\x01\x01t", api.ErrShort},
		{"a wrong act and an address above MaxPrefix", "\x09" + ahead[1:] + "\x01\x81\x01", api.ErrLimit},
		{"a wrong act and a cut weight", "\x09" + ahead[1:] + "\x01\x01t" + weight[:7], api.ErrShort},
	} {
		wantNoCommand(t, c.what, c.bytes, c.errno)
	}
}

// P8.1: what Check refuses is ErrForm, whatever its error.
func TestNoCommandByCheck(t *testing.T) {
	route, pool := putRoute("h", "/", "p"), putPool("p", target("t", 1))
	unused := dropPool("p")
	unused.Targets = []api.Target{target("t", 1)}
	hosted := pool
	hosted.Host = "h"
	refused := []api.Command{
		{}, {Act: 5, Expect: -1}, {Act: api.MaxNum, Expect: -1}, ofClient(0, 1, route), ofClient(1, 0, route), ofClient(api.MaxClient+1, 1, route), unused, hosted,
		putPool(""), putPool("P"), putPool(strings.Repeat("p", api.MaxName+1)), putPool("p", target("", 1)), putPool("p", target("a b", 1)),
		putRoute("", "/", "p"), putRoute("h.", "/", "p"), putRoute("h", "", "p"), putRoute("h", "p", "p"), putRoute("h", "/", ""), dropRoute("H", "/"), dropRoute("h", "?"),
		putRoute(strings.Repeat("h", api.MaxPrefix), "/", "p"), putPool("p", target(strings.Repeat("t", api.MaxPrefix), 1)),
	}
	for _, w := range wrongWeights() {
		refused = append(refused, putPool("p", target("t", w)))
	}
	for _, c := range refused {
		if conf.Check(c) == api.OK {
			t.Errorf("Check(%.200s) is OK", shown(c))
		}
		wantNoCommand(t, shown(c), commandBytes(c), api.ErrForm)
	}
}

// P8.5 (E1): what is got is put as the same bytes, and what is put is got; from bytes that are turned here and there.
func TestGotIsPut(t *testing.T) {
	c := chance(3)
	right := 0
	for range 200000 {
		x := eachAct()[c.below(4)]
		b := []byte(commandBytes(ofClient(c.below(2), c.below(2), x)))
		for range c.below(3) {
			b[c.below(len(b))] = byte(c.below(256)) >> (c.below(8))
		}
		if c.below(9) == 0 {
			b = b[:c.below(len(b)+1)]
		}
		got, e := conf.GetCommand(b)
		if e != api.OK {
			wantNoCommand(t, fmt.Sprintf("%x again", b), string(b), e)
			continue
		}
		right++
		if again, e := conf.PutCommand(got); e != api.OK || string(again) != string(b) {
			t.Fatalf("%x was got as %s, which is put as %x, error %d", b, shown(got), again, e)
		}
	}
	if right < 10000 {
		t.Errorf("only %d rows of bytes were right", right)
	}
}

// P3: commands.
func TestCommandMemory(t *testing.T) {
	l := append(many(3), target("spare", 9))[:2]
	c := putPool("p", l...)
	c.Targets = l
	want := shown(c)
	b, e := conf.PutCommand(c)
	if e != api.OK || conf.Check(c) != api.OK || shown(c) != want || l[:3][2].Addr != "t2" {
		t.Errorf("what was handed in is %s, error %d", shown(c), e)
	}
	was := string(b)
	l[0].Addr = "changed"
	if string(b) != was {
		t.Error("bytes changed with their command")
	}
	b = append(b, "spare"...)[:len(b)]
	got, _ := conf.GetCommand(b)
	again, _ := conf.GetCommand(b)
	if string(b[:len(b)+5]) != was+"spare" {
		t.Error("GetCommand changed what was handed in")
	}
	clear(b)
	got.Targets[0].Addr = "changed"
	if shown(again) != want {
		t.Errorf("what was got changed with its bytes, or with another one: %s", shown(again))
	}
}
