package conf

import (
	"math"
	"strings"

	"tollgate/api"
)

// Check is a command's error.
func Check(c api.Command) api.Errno {
	if !numbersMayBe(c) || !unusedIsEmpty(c) {
		return api.ErrArg
	}
	if !namesMayBe(c) {
		return api.ErrName
	}
	if !weightsMayBe(c.Targets) {
		return api.ErrWeight
	}
	if len(c.Targets) > api.MaxTargets {
		return api.ErrLimit
	}
	return api.OK
}

func within(n, least, most int) bool { return n >= least && n <= most }

func numbersMayBe(c api.Command) bool {
	leastSeq, mostSeq := 1, api.MaxNum
	if c.Client == 0 {
		leastSeq, mostSeq = 0, 0
	}
	return within(int(c.Act), int(api.PutPool), int(api.DropRoute)) &&
		within(c.Client, 0, api.MaxClient) &&
		within(c.Seq, leastSeq, mostSeq) &&
		within(c.Expect, -1, api.MaxNum-1)
}

func ofRoute(a api.Act) bool { return a == api.PutRoute || a == api.DropRoute }

func unusedIsEmpty(c api.Command) bool {
	return (ofRoute(c.Act) || c.Host == "" && c.Prefix == "") &&
		(c.Act != api.DropRoute || c.Pool == "") &&
		(c.Act == api.PutPool || len(c.Targets) == 0)
}

// namesMayBe asks for what the act uses: of the rest it is known that it is empty.
func namesMayBe(c api.Command) bool {
	if ofRoute(c.Act) && !(isHost(c.Host) && isPrefix(c.Prefix)) {
		return false
	}
	return (c.Act == api.DropRoute || isName(c.Pool)) && addressesMayBe(c.Targets)
}

func addressesMayBe(targets []api.Target) bool {
	for _, t := range targets {
		if !isAddress(t.Addr) {
			return false
		}
	}
	return true
}

func weightsMayBe(targets []api.Target) bool {
	for _, t := range targets {
		if !isWeight(t.Weight) {
			return false
		}
	}
	return true
}

// made: has a text 1 to most bytes, all of that kind?
func made(text string, most int, mayStand func(c byte) bool) bool {
	if !within(len(text), 1, most) {
		return false
	}
	for _, c := range []byte(text) {
		if !mayStand(c) {
			return false
		}
	}
	return true
}

func ofName(c byte) bool {
	return c >= 'a' && c <= 'z' || c >= '0' && c <= '9' || c == '-'
}

func ofAddress(c byte) bool { return c >= 33 && c <= 126 }

func ofPrefix(c byte) bool { return ofAddress(c) && c != '?' && c != '#' }

func isName(text string) bool { return made(text, api.MaxName, ofName) }

func isHost(text string) bool {
	if len(text) > api.MaxName {
		return false
	}
	for _, part := range strings.Split(text, ".") {
		if !isName(part) {
			return false
		}
	}
	return true
}

func isPrefix(text string) bool {
	return made(text, api.MaxPrefix, ofPrefix) && text[0] == '/'
}

func isAddress(text string) bool { return made(text, api.MaxName, ofAddress) }

// isWeight: the bits of all weights, and no others, are below those of the infinity: a sign's bit is the highest one, and NaNs have more.
func isWeight(w float64) bool { return math.Float64bits(w) < math.Float64bits(math.Inf(1)) }
