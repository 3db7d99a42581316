package conf

import (
	"math"

	"tollgate/api"
	"tollgate/wire"
)

// PutCommand is a command's bytes.
func PutCommand(c api.Command) ([]byte, api.Errno) {
	if e := Check(c); e != api.OK {
		return nil, e
	}
	b := addNumbers(nil, int(c.Act), c.Client, c.Seq, c.Expect+1)
	b = addTexts(b, c.Host, c.Prefix, c.Pool)
	return addTargets(b, c.Targets), api.OK
}

// addNumbers has no error to tell: all numbers here are within their limits.
func addNumbers(b []byte, numbers ...int) []byte {
	for _, n := range numbers {
		x, _ := wire.Number(n)
		b = append(b, x...)
	}
	return b
}

func addTexts(b []byte, texts ...string) []byte {
	for _, text := range texts {
		b = append(addNumbers(b, len(text)), text...)
	}
	return b
}

func addTargets(b []byte, targets []api.Target) []byte {
	b = addNumbers(b, len(targets))
	for _, t := range targets {
		b = addWeight(addTexts(b, t.Addr), t.Weight)
	}
	return b
}

func addWeight(b []byte, w float64) []byte {
	bits := math.Float64bits(w)
	for shift := 56; shift >= 0; shift -= 8 {
		b = append(b, byte(bits>>shift))
	}
	return b
}

func addPool(b []byte, p api.Pool) []byte { return addTargets(addTexts(b, p.Name), p.Targets) }

func addRoute(b []byte, r api.Route) []byte { return addTexts(b, r.Host, r.Prefix, r.Pool) }

// addConfig adds a configuration's bytes; its version is none of them.
func addConfig(b []byte, c api.Config) []byte {
	b = addNumbers(b, len(c.Pools))
	for _, p := range c.Pools {
		b = addPool(b, p)
	}
	b = addNumbers(b, len(c.Routes))
	for _, r := range c.Routes {
		b = addRoute(b, r)
	}
	return b
}
