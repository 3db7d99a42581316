package plane

import (
	"strings"

	"tollgate/api"
)

// Find is the route of a host and a path.
func Find(c api.Config, host, path string) (api.Route, bool) {
	best := -1
	for i, r := range c.Routes {
		if r.Host != host || !fits(r.Prefix, path) {
			continue
		}
		if best < 0 || len(r.Prefix) > len(c.Routes[best].Prefix) {
			best = i
		}
	}
	if best < 0 {
		return api.Route{}, false
	}
	return c.Routes[best], true
}

func fits(prefix, path string) bool {
	behind, ok := strings.CutPrefix(path, prefix)
	return ok && (behind == "" || strings.HasSuffix(prefix, "/") || behind[0] == '/')
}
