package topo

import "leafmesh/api"

// checks returns the checks of the arguments of New, in their order.
func checks(nodes int, links []api.Link) []func() api.Errno {
	isNode := func(n int) bool { return n >= 0 && n < nodes }
	list := []func() api.Errno{
		func() api.Errno { return unless(nodes >= 1 && nodes <= api.MaxNodes, api.ErrRange) },
		func() api.Errno { return unless(len(links) <= api.MaxLinks, api.ErrLong) },
	}
	// Of a list that is too long no link is ever checked, so that the checks need not grow with it.
	for _, l := range links[:min(len(links), api.MaxLinks)] {
		list = append(list,
			func() api.Errno {
				return unless(isNode(l.A) && isNode(l.B) && l.Cost >= 1 && l.Cost <= api.MaxCost, api.ErrRange)
			},
			func() api.Errno { return unless(l.A != l.B, api.ErrLoop) },
		)
	}
	return list
}

// first returns the error of the first check that fails.
func first(checks ...func() api.Errno) api.Errno {
	for _, check := range checks {
		if err := check(); err != api.OK {
			return err
		}
	}
	return api.OK
}

// unless returns an error if something does not hold.
func unless(holds bool, err api.Errno) api.Errno {
	if holds {
		return api.OK
	}
	return err
}
