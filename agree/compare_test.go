package agree

import (
	"testing"

	"mantrap/api"
	"mantrap/authority"
	"mantrap/domain"
	"mantrap/four"
	"mantrap/host"
	"mantrap/policy"
)

// P19.1, the fourth step to the sixth: both sites in all that they may differ in. No text is
// known that passes the steps ahead and has two sites that differ, so that the fifth step is
// asked here, of sites, and not of texts alone.
func TestCompare(t *testing.T) {
	g, _ := policy.Build(policy.Policy{Ports: []int{80, 443}})
	sites := []authority.Site{}
	for _, scheme := range []string{"http", "https"} {
		for _, h := range []host.Host{domain.Name("a"), domain.Name("127.0.0.1"), four.Of(127, 0, 0, 1), nil} {
			for _, port := range []int{80, 443, 81} {
				for _, user := range []bool{false, true} {
					sites = append(sites, authority.Site{Scheme: scheme, Host: h, Port: port, User: user})
				}
			}
		}
	}
	for i, a := range sites {
		for j, b := range sites {
			want := api.OK
			switch {
			case a.User || b.User:
				want = api.ErrUser
			case i != j:
				want = api.ErrDiffer
			case a.Port == 81:
				want = api.ErrPort
			}
			if got := compare(g, a, b); got != want {
				t.Errorf("%+v and %+v: %d, want %d", a, b, got, want)
			}
			if want == api.OK {
				want = api.ErrPort
			}
			if got := compare(nil, a, b); got != want {
				t.Errorf("%+v and %+v by a nil gate: %d, want %d", a, b, got, want)
			}
		}
	}
}
