package conf_test

import (
	"fmt"
	"math"
	"slices"
	"strings"
	"testing"

	"tollgate/api"
	"tollgate/conf"
)

const letters = "abcdefghijklmnopqrstuvwxyz0123456789-"

func putPool(name string, targets ...api.Target) api.Command {
	return api.Command{Act: api.PutPool, Expect: -1, Pool: name, Targets: targets}
}

func dropPool(name string) api.Command {
	return api.Command{Act: api.DropPool, Expect: -1, Pool: name}
}

func putRoute(host, prefix, pool string) api.Command {
	return api.Command{Act: api.PutRoute, Expect: -1, Host: host, Prefix: prefix, Pool: pool}
}

func dropRoute(host, prefix string) api.Command {
	return api.Command{Act: api.DropRoute, Expect: -1, Host: host, Prefix: prefix}
}

func target(addr string, weight float64) api.Target { return api.Target{Addr: addr, Weight: weight} }

// ofClient is the command as that client's.
func ofClient(client, seq int, c api.Command) api.Command {
	c.Client, c.Seq = client, seq
	return c
}

func expecting(version int, c api.Command) api.Command {
	c.Expect = version
	return c
}

// eachAct is a right command of each act.
func eachAct() []api.Command {
	return []api.Command{putPool("a", target("t:80", 1)), dropPool("a"), putRoute("x.y", "/", "a"), dropRoute("x.y", "/")}
}

// wantCheck: all calls that check a command say the same of it, and a refused one changes nothing.
func wantCheck(t *testing.T, c api.Command, errno api.Errno) {
	t.Helper()
	if e := conf.Check(c); e != errno {
		t.Errorf("Check(%.300v): error %d; want %d", c, e, errno)
	}
	if b, e := conf.PutCommand(c); e != errno || e != api.OK && len(b) != 0 {
		t.Errorf("PutCommand(%.300v): %d bytes, error %d; want error %d", c, len(b), e, errno)
	}
	if errno == api.OK {
		return
	}
	s := conf.New()
	wantResult(t, s, ofClient(1, 1, putPool("a")), api.OK, 1)
	before := told(s)
	if r := s.Do(c); r != (api.Result{E: errno, Version: 1}) {
		t.Errorf("Do(%.300v): %v; want error %d", c, r, errno)
	}
	if told(s) != before {
		t.Errorf("Do(%.300v) was refused and changed\n%s\nto\n%s", c, before, told(s))
	}
}

// P8.1: the numbers and the act.
func TestCheckNumbers(t *testing.T) {
	for _, c := range eachAct() {
		wantCheck(t, c, api.OK)
		for _, n := range []int{math.MinInt, -1, int(api.NoAct), int(api.DropRoute) + 1, math.MaxInt} {
			x := c
			x.Act = api.Act(n)
			wantCheck(t, x, api.ErrArg)
		}
		for _, n := range []int{math.MinInt, -1, api.MaxClient + 1, math.MaxInt} {
			wantCheck(t, ofClient(n, 1, c), api.ErrArg)
			wantCheck(t, ofClient(n, 0, c), api.ErrArg)
		}
		for _, client := range []int{1, 2, api.MaxClient} {
			for _, n := range []int{1, 2, api.MaxNum - 1, api.MaxNum} {
				wantCheck(t, ofClient(client, n, c), api.OK)
			}
			for _, n := range []int{math.MinInt, -1, 0, api.MaxNum + 1, math.MaxInt} {
				wantCheck(t, ofClient(client, n, c), api.ErrArg)
			}
		}
		for _, n := range []int{math.MinInt, -1, 1, api.MaxNum, math.MaxInt} {
			wantCheck(t, ofClient(0, n, c), api.ErrArg)
		}
		for _, n := range []int{-1, 0, 1, api.MaxNum - 1} {
			wantCheck(t, expecting(n, c), api.OK)
		}
		for _, n := range []int{math.MinInt, -2, api.MaxNum, api.MaxNum + 1, math.MaxInt} {
			wantCheck(t, expecting(n, c), api.ErrArg)
		}
	}
	wantCheck(t, api.Command{}, api.ErrArg)
}

// P8.1: what an act does not use is empty.
func TestCheckUnused(t *testing.T) {
	fill := map[string]func(c *api.Command){
		"Host": func(c *api.Command) { c.Host = "h" }, "Prefix": func(c *api.Command) { c.Prefix = "/p" },
		"Pool": func(c *api.Command) { c.Pool = "p" }, "Targets": func(c *api.Command) { c.Targets = []api.Target{target("t", 1)} },
	}
	uses := map[api.Act][]string{
		api.PutPool: {"Pool", "Targets"}, api.DropPool: {"Pool"}, api.PutRoute: {"Host", "Prefix", "Pool"}, api.DropRoute: {"Host", "Prefix"},
	}
	for _, c := range eachAct() {
		for what, set := range fill {
			x := c
			set(&x)
			if slices.Contains(uses[c.Act], what) {
				wantCheck(t, x, api.OK)
			} else {
				wantCheck(t, x, api.ErrArg)
			}
		}
	}
	none := dropPool("a")
	none.Targets = []api.Target{}
	wantCheck(t, none, api.OK)
	wantCheck(t, putPool("a"), api.OK)
}

// bytesBut are all texts of one byte, ahead of rest, but those of that byte's kind.
func bytesBut(kind, rest string) []string {
	var all []string
	for c := range 256 {
		if strings.IndexByte(kind, byte(c)) < 0 {
			all = append(all, string([]byte{byte(c)})+rest)
		}
	}
	return all
}

// visible are the bytes from 33 to 126.
func visible() string {
	var s strings.Builder
	for c := byte(33); c <= 126; c++ {
		s.WriteByte(c)
	}
	return s.String()
}

// spread is a kind's bytes in texts of at most that many, each with ahead ahead.
func spread(kind, ahead string, most int) []string {
	var all []string
	for part := range slices.Chunk([]byte(kind), most-len(ahead)) {
		all = append(all, ahead+string(part))
	}
	return all
}

// P8.1, 'Words': pools' names.
func TestNames(t *testing.T) {
	right := append(spread(letters, "", api.MaxName), "a", "-", "0", "--", strings.Repeat("z", api.MaxName))
	wrong := append(bytesBut(letters, "a"), "", strings.Repeat("z", api.MaxName+1), "a.b", "A", "aé", "a ", "a\x00", "/")
	wrong = append(wrong, bytesBut(letters, "")...)
	for i, names := range [][]string{right, wrong} {
		errno := []api.Errno{api.OK, api.ErrName}[i]
		for _, name := range names {
			wantCheck(t, putPool(name), errno)
			wantCheck(t, dropPool(name), errno)
			wantCheck(t, putRoute("h", "/", name), errno)
		}
	}
}

// P8.1, 'Words': hosts.
func TestHosts(t *testing.T) {
	right := append(spread(letters, "", api.MaxName), "a", "a.b", "a.b.c", "-.-", "0.0.0.0", strings.Repeat("z", api.MaxName), strings.Repeat("a.", api.MaxName/2-1)+"bc", strings.Repeat("z", api.MaxName-2)+".a")
	wrong := append(bytesBut(letters, "a"), "", ".", "..", "a.", ".a", "a..b", "A.b", "a.B", "a.b:80", "a/b", "*.a", "é", "a.\x00", strings.Repeat("z", api.MaxName+1), strings.Repeat("z", api.MaxName-1)+".a", strings.Repeat("a.", api.MaxName/2)+"b")
	for i, hosts := range [][]string{right, wrong} {
		errno := []api.Errno{api.OK, api.ErrName}[i]
		for _, host := range hosts {
			wantCheck(t, putRoute(host, "/", "p"), errno)
			wantCheck(t, dropRoute(host, "/"), errno)
		}
	}
}

// P8.1, 'Words': prefixes.
func TestPrefixes(t *testing.T) {
	kind := strings.NewReplacer("?", "", "#", "").Replace(visible())
	right := append(spread(kind, "/", api.MaxPrefix), "/", "//", "/a/b", "/%20", "/"+strings.Repeat("p", api.MaxPrefix-1))
	wrong := []string{"", "a", "a/", " /", "?", "#", "/?", "/a?b", "/#", "/" + strings.Repeat("p", api.MaxPrefix), "/é"}
	for _, c := range bytesBut(kind, "") {
		wrong = append(wrong, "/"+c, "/a"+c+"b")
	}
	wrong = append(wrong, bytesBut("/", "/")...)
	for i, prefixes := range [][]string{right, wrong} {
		errno := []api.Errno{api.OK, api.ErrName}[i]
		for _, prefix := range prefixes {
			wantCheck(t, putRoute("h", prefix, "p"), errno)
			wantCheck(t, dropRoute("h", prefix), errno)
		}
	}
}

// P8.1, 'Words': addresses, the first one and a later one.
func TestAddresses(t *testing.T) {
	right := append(spread(visible(), "", api.MaxName), "t", "!", "~", strings.Repeat("~", api.MaxName))
	wrong := append(bytesBut(visible(), "a"), "", " ", "a b", "a\x00", "é", strings.Repeat("t", api.MaxName+1))
	wrong = append(wrong, bytesBut(visible(), "")...)
	for i, addresses := range [][]string{right, wrong} {
		errno := []api.Errno{api.OK, api.ErrName}[i]
		for _, addr := range addresses {
			wantCheck(t, putPool("p", target(addr, 1)), errno)
			wantCheck(t, putPool("p", target("t", 1), target(addr, 0), target("u", 1)), errno)
		}
	}
}

// rightWeights are at the edges of what a weight may be.
var rightWeights = []float64{0, 1, 0.1, math.SmallestNonzeroFloat64, math.MaxFloat64, math.MaxFloat32, 1e300, 3}

// wrongWeights are NaNs of several bits, infinities, -0 and such below 0.
func wrongWeights() []float64 {
	return []float64{
		math.NaN(), -math.NaN(), math.Float64frombits(0x7ff0000000000001), math.Float64frombits(0xfff0000000000001), math.Float64frombits(0xffffffffffffffff), math.Float64frombits(0x7fffffffffffffff),
		math.Inf(1), math.Inf(-1), math.Copysign(0, -1), -1, -math.SmallestNonzeroFloat64, -math.MaxFloat64,
	}
}

// P8.1, 'Words': weights, the first one and a later one.
func TestWeights(t *testing.T) {
	for _, w := range rightWeights {
		wantCheck(t, putPool("p", target("t", w)), api.OK)
		wantCheck(t, putPool("p", target("t", 1), target("u", w), target("v", 2)), api.OK)
	}
	for _, w := range wrongWeights() {
		wantCheck(t, putPool("p", target("t", w)), api.ErrWeight)
		wantCheck(t, putPool("p", target("t", 1), target("u", w), target("v", 2)), api.ErrWeight)
	}
}

// many are so many targets.
func many(count int) []api.Target {
	var l []api.Target
	for i := range count {
		l = append(l, target(fmt.Sprintf("t%d", i), float64(i)))
	}
	return l
}

// P8.1: of several errors the one that is named first.
func TestCheckOrder(t *testing.T) {
	wantCheck(t, putPool("a", many(api.MaxTargets)...), api.OK)
	wantCheck(t, putPool("a", many(api.MaxTargets+1)...), api.ErrLimit)
	wantCheck(t, putPool("a", many(500)...), api.ErrLimit)
	wantCheck(t, putPool("a", slices.Repeat([]api.Target{target("t", 1)}, 3)...), api.OK)

	last := many(api.MaxTargets + 1)
	last[api.MaxTargets].Weight = -1
	wantCheck(t, putPool("a", last...), api.ErrWeight)
	last[api.MaxTargets].Addr = ""
	wantCheck(t, putPool("a", last...), api.ErrName)
	last[0].Weight = math.NaN()
	wantCheck(t, putPool("a", last...), api.ErrName)
	wantCheck(t, putPool("A", many(api.MaxTargets+1)...), api.ErrName)
	wantCheck(t, putPool("A", target("t", -1)), api.ErrName)

	wrong := putPool("A", last...)
	for _, x := range []api.Command{ofClient(0, 1, wrong), ofClient(1, 0, wrong), ofClient(-1, 1, wrong), expecting(-2, wrong), expecting(api.MaxNum, wrong)} {
		wantCheck(t, x, api.ErrArg)
	}
	wrong.Host = "A"
	wantCheck(t, wrong, api.ErrArg)
	route := putRoute("A", "", "")
	wantCheck(t, route, api.ErrName)
	route.Targets = last
	wantCheck(t, route, api.ErrArg)
	gone := dropRoute("", "")
	wantCheck(t, gone, api.ErrName)
	gone.Pool = "A"
	wantCheck(t, gone, api.ErrArg)
}
